/- Chapter 9: what enough have, by the program. -/
import Derived.Test.YtpfocemiipmkiaaEX
import Derived.Test.YtpfocemiipmkiaaWL
import Derived.Test.YtpfocemiipmkiaaWM
import Derived.Test.YtpfocemiipmkiaaWC
import Derived.Test.YtpfocemiipmkiaaI5s
namespace Go.Proofs.Ytpfocemiipmkiaa
open Go.RowKit

theorem run_storeVar_oneC {P : Program} {w : World} {b k : Nat} {u : Value} (hc : w.cell? ⟨b, k, none⟩ = some u) (hf : w.frozen? ⟨b, k, none⟩ = false) (ty : TypeId) (v : Value) (hv : v.oneCell' = true) (hi : (P.info? ty).map (·.size) = some 1) : (storeVar ty ⟨b, k, none⟩ v).run P w = .ok () (w.setCells b k [v]) := by
  have := run_storeCells_cells (P := P) b k [v] 0 w (fun j hj => by
    have e : j = 0 := by simpa using hj
    rw [e, Nat.add_zero, hc]; rfl) (fun j hj => by
    have e : j = 0 := by simpa using hj
    rw [e, Nat.add_zero]; exact hf) (fun x hx => by simp at hx; subst hx; exact hv)
  have hc : v.cells = #[v] := by cases v <;> first | rfl | cases hv
  cases hq : P.info? ty with
  | none => simp [hq] at hi
  | some i =>
    have hs : i.size = 1 := by simpa [hq] using hi
    simp only [Nat.add_zero] at this
    simp [storeVar, sizeOf, typeInfo, hq, hc, hs, this]
/-- one cell is written in a region that draws its order -/
theorem step_oneC {P : Program} {ops : Array Oper} {dst : Option Tmp} {type : TypeId} {pos : String} {after : Array Edge} {a : Act} {w : World} {K : Act → World → Prop} {Q : Exit → Act → World → Prop} {E : Prop} (ty : TypeId) {x y : Operand} {b k : Nat} {u : Value} (hc : w.cell? ⟨b, k, none⟩ = some u) (hf : w.frozen? ⟨b, k, none⟩ = false) (v : Value) (hi : (P.info? ty).map (·.size) = some 1) (hv : v.oneCell' = true) (hx : a.eval x = .pointer (some ⟨b, k, none⟩)) (hy : a.eval y = v)
    (h : K (a.put dst undef) (w.setCell ⟨b, k, none⟩ v)) : if Region.wanted ⟨dst, .store ty x y, type, pos, after, none⟩ (yielded ops a.tmps) = true then Oper.wp P ⟨dst, .store ty x y, type, pos, after, none⟩ a w K Q else E := by
  have hw : Region.wanted ⟨dst, .store ty x y, type, pos, after, none⟩ (yielded ops a.tmps) = true := by simp [Region.wanted]
  rw [if_pos hw]
  unfold Oper.wp execOp
  simp only [hx, hy, Instr.storeAt, Instr.sureAddr, Sem.run_bind, Sem.run_pure, Result.andThen_ok, run_storeVar_oneC hc hf ty v hv hi]
  exact h
set_option maxRecDepth 20000 in
set_option maxHeartbeats 2000000 in
theorem agreed_is {own : Bool} {lo hi : Nat} (r : Rep) (h : RH) (s : Hd) (b0 : Nat) (w : World) (X0 : Bx w b0 [.int .i64 r.id, .int .i64 r.size, .int .i64 r.view, .bool r.normal, .int .i64 r.last, .slice h.L.1 h.L.2.1 h.L.2.2, .int .i64 r.commit, .slice h.O.1 h.O.2.1 h.O.2.2, .slice h.A.1 h.A.2.1 h.A.2.2, .slice h.D.1 h.D.2.1 h.D.2.2, .slice s.1 s.2.1 s.2.2]) (x : RepAt w own lo hi h r) (hs : 1 ≤ r.size ∧ r.size ≤ 5) (hid : 0 ≤ r.id ∧ r.id ≤ r.size - 1) (hl : (r.oks.length : Int) = r.size) (ho : ∀ y ∈ r.oks, 0 ≤ y ∧ y ≤ (r.log.length : Int)) :
    Calls Try.prog 59 #[.agg #[.pointer (some ⟨b0, 0, none⟩)]] w fun e w' => e = .returned (.int .i64 (agrR r)) ∧ Below w.heap.size w w' := by
  have hol := x.oks.nInts
  have hll := x.log.nSixs
  have HG : Hid (∀ ys : List Int, ys.Perm (r.oks.set r.id.toNat (h.L.2.1 : Int)) → ys.Pairwise (· ≤ ·) → ys.getD ((r.size - 1) / 2).toNat 0 = agrR r) := fun ys h1 h2 => by
    unfold agrR
    rw [hll]
    have := agr_sorted (oks := r.oks) (ys := ys) (id := r.id.toNat) (n := h.L.2.1) (size := r.size) h1 h2 hl hs (by omega) (by rw [← hll]; exact ho)
    rw [this, show ((r.id.toNat : Nat) : Int) = r.id by omega]
  have c0 := X0.cell
  have ob0 := X0.lt
  obtain ⟨i, hi⟩ : ∃ i : Nat, r.id = i := ⟨r.id.toNat, by omega⟩
  have hnO : h.O.2.1 ≤ 5 := by omega
  have hiO : i < h.O.2.1 := by omega
  have hdv : Int.tdiv (r.size - 1) 2 = (r.size - 1) / 2 := Int.tdiv_eq_ediv_of_nonneg (by omega)
  obtain ⟨m, hm⟩ : ∃ m : Nat, (r.size - 1) / 2 = m := ⟨((r.size - 1) / 2).toNat, by omega⟩
  have hmO : m < h.O.2.1 := by omega
  rw [hm] at hdv
  have HG2 : Hid (∀ ys : List Int, ys.Perm (r.oks.set i (h.L.2.1 : Int)) → ys.Pairwise (· ≤ ·) → ys.getD m 0 = agrR r) := fun ys h1 h2 => by
    have := HG.out ys (by rw [hi]; exact h1) h2
    rwa [hm] at this
  clear HG hm
  have w1 : IntKind.i64.wrap (r.size - 1) = r.size - 1 := wrapI_same _ (by omega)
  have w2 : IntKind.i64.wrap (m : Int) = m := wrapI_same _ (by omega)
  have hiq : (i : Int) < (h.O.2.1 : Int) := by omega
  have hmq : (m : Int) < (h.O.2.1 : Int) := by omega
  rw [hi] at X0 c0
  go_enter Try.func59, Try.ntmps59
  go_wp2_with (first | ((have g := ob0); clear g; (with_reducible refine box_newX 81 [.pointer (some ⟨b0, 0, none⟩)] rfl ?_); intro b1 W1 N1; have ob1 : w.heap.size ≤ b1 := N1.ge; have o0_b1 : b0 < b1 := Nat.lt_of_lt_of_le X0.lt N1.ge; replace X0 := X0.below N1.below; replace c0 := X0.cell; have B := N1.below; have X1 := N1.bx; have c1 := X1.cell; clear N1) | fail)
  refine (cloneI_z _ _ _ r.oks _ (by exact x.oks.below B) (by omega)).mono ?_
  rintro e w1 ⟨ra, rc, z, u, rfl, Gz, _, hR, R, BB⟩
  have oz : w.heap.size ≤ z := Nat.le_trans B.size Gz
  have o0_z : b0 < z := Nat.lt_of_lt_of_le X0.lt Gz
  have o1_z : b1 < z := Nat.lt_of_lt_of_le X1.lt Gz
  clear Gz
  replace X0 := X0.below BB
  replace c0 := X0.cell
  replace X1 := X1.below BB
  replace c1 := X1.cell
  replace B := below_next B BB
  clear BB
  obtain ⟨bb, off, rfl, y1, y2, y3, e0, f0⟩ := R.int hiO
  replace f0 := f0 rfl
  go_wp2_with fail
  have DQ : Below w1.heap.size w1 w1.drew := (Below.refl _ _).drew
  replace X0 := X0.below DQ
  replace c0 := X0.cell
  replace X1 := X1.below DQ
  replace c1 := X1.cell
  replace R := R.below DQ
  replace hR := Nat.le_trans hR DQ.size
  replace B := below_next B DQ
  clear DQ
  replace e0 : w1.drew.cell? _ = _ := e0
  replace f0 : w1.drew.frozen? _ = _ := f0
  refine wp_region_held_drew (S := (fun w' => (∀ k : Nat, w'.cell? ⟨b0, k, none⟩ = [.int .i64 i, .int .i64 r.size, .int .i64 r.view, .bool r.normal, .int .i64 r.last, .slice h.L.1 h.L.2.1 h.L.2.2, .int .i64 r.commit, .slice h.O.1 h.O.2.1 h.O.2.2, .slice h.A.1 h.A.2.1 h.A.2.2, .slice h.D.1 h.D.2.1 h.D.2.2, .slice s.1 s.2.1 s.2.2][k]?) ∧ ∀ k : Nat, w'.cell? ⟨b1, k, none⟩ = [Value.pointer (some ⟨b0, 0, none⟩)][k]?)) (by kernel_rfl) ⟨c0, c1⟩ (fun hHeld => ?_)
  refine wpAnyH_take (i := 0) (v := ?_) rfl (by kernel_rfl) (by kernel_rfl) (by kernel_rfl) (fun _ _ _ h => h) (Or.inl ⟨by rfl, ?_⟩) hHeld ?_
  rotate_left 1
  · intro w hSw
    try dsimp only at hSw
    first | (go_simp; done) | (go_simp; with_reducible rfl)
  simp only [Act.put, List.setIfInBounds_toArray, List.set_cons_zero, List.set_cons_succ, List.getElem_toArray, List.getElem_cons_zero]
  refine wpAnyH_take (i := 1) (v := ?_) rfl (by kernel_rfl) (by kernel_rfl) (by kernel_rfl) (fun _ _ _ h => h) (Or.inl ⟨by rfl, ?_⟩) hHeld ?_
  rotate_left 1
  · intro w hSw
    try dsimp only at hSw
    first | (go_simp; done) | (go_simp; with_reducible rfl)
  simp only [Act.put, List.setIfInBounds_toArray, List.set_cons_zero, List.set_cons_succ, List.getElem_toArray, List.getElem_cons_zero, List.getElem_cons_succ]
  refine wpAnyH_take (i := 2) (v := ?_) rfl (by kernel_rfl) (by kernel_rfl) (by kernel_rfl) (fun _ _ _ h => h) (Or.inl ⟨by rfl, ?_⟩) hHeld ?_
  rotate_left 1
  · intro w hSw
    try dsimp only at hSw
    first | (go_simp; done) | (go_simp; with_reducible rfl)
  simp only [Act.put, List.setIfInBounds_toArray, List.set_cons_zero, List.set_cons_succ, List.getElem_toArray, List.getElem_cons_zero, List.getElem_cons_succ]
  refine wpAnyH_take (i := 3) (v := ?_) rfl (by kernel_rfl) (by kernel_rfl) (by kernel_rfl) (fun _ _ _ h => h) (Or.inl ⟨by rfl, ?_⟩) hHeld ?_
  rotate_left 1
  · intro w hSw
    try dsimp only at hSw
    first | (go_simp; done) | (go_simp; with_reducible rfl)
  simp only [Act.put, List.setIfInBounds_toArray, List.set_cons_zero, List.set_cons_succ, List.getElem_toArray, List.getElem_cons_zero, List.getElem_cons_succ]
  refine wpAnyH_take (i := 4) (v := ?_) rfl (by kernel_rfl) (by kernel_rfl) (by kernel_rfl) (fun _ _ _ h => h) (Or.inl ⟨by rfl, ?_⟩) hHeld ?_
  rotate_left 1
  · intro w hSw
    try dsimp only at hSw
    first | (go_simp; done) | (go_simp; with_reducible rfl)
  simp only [Act.put, List.setIfInBounds_toArray, List.set_cons_zero, List.set_cons_succ, List.getElem_toArray, List.getElem_cons_zero, List.getElem_cons_succ]
  refine wpAnyH_take (i := 5) (v := ?_) rfl (by kernel_rfl) (by kernel_rfl) (by kernel_rfl) (fun _ _ _ h => h) (Or.inl ⟨by rfl, ?_⟩) hHeld ?_
  rotate_left 1
  · intro w hSw
    try dsimp only at hSw
    first | (go_simp; done) | (go_simp; with_reducible rfl)
  simp only [Act.put, List.setIfInBounds_toArray, List.set_cons_zero, List.set_cons_succ, List.getElem_toArray, List.getElem_cons_zero, List.getElem_cons_succ]
  refine wpAnyH_take (i := 6) (v := ?_) rfl (by kernel_rfl) (by kernel_rfl) (by kernel_rfl) (fun _ _ _ h => h) (Or.inl ⟨by rfl, ?_⟩) hHeld ?_
  rotate_left 1
  · intro w hSw
    try dsimp only at hSw
    first | (go_simp; done) | (go_simp; with_reducible rfl)
  simp only [Act.put, List.setIfInBounds_toArray, List.set_cons_zero, List.set_cons_succ, List.getElem_toArray, List.getElem_cons_zero, List.getElem_cons_succ]
  refine wpAnyH_take (i := 7) (v := ?_) rfl (by kernel_rfl) (by kernel_rfl) (by kernel_rfl) (fun _ _ _ h => h) (Or.inl ⟨by rfl, ?_⟩) hHeld ?_
  rotate_left 1
  · intro w hSw
    try dsimp only at hSw
    first | (go_simp; done) | (go_simp; with_reducible rfl)
  simp only [Act.put, List.setIfInBounds_toArray, List.set_cons_zero, List.set_cons_succ, List.getElem_toArray, List.getElem_cons_zero, List.getElem_cons_succ]
  refine wpAnyH_take (i := 8) (v := ?_) rfl (by kernel_rfl) (by kernel_rfl) (by kernel_rfl) (fun _ _ _ h => h) (Or.inl ⟨by rfl, ?_⟩) hHeld ?_
  rotate_left 1
  · intro w hSw
    try dsimp only at hSw
    first | (go_simp; done) | (go_simp; with_reducible rfl)
  simp only [Act.put, List.setIfInBounds_toArray, List.set_cons_zero, List.set_cons_succ, List.getElem_toArray, List.getElem_cons_zero, List.getElem_cons_succ]
  refine wpAnyH_take (i := 9) (v := ?_) rfl (by kernel_rfl) (by kernel_rfl) (by kernel_rfl) (fun _ _ _ h => h) (Or.inl ⟨by rfl, ?_⟩) hHeld ?_
  rotate_left 1
  · intro w hSw
    try dsimp only at hSw
    first | (go_simp; done) | (go_simp; with_reducible rfl)
  simp only [Act.put, List.setIfInBounds_toArray, List.set_cons_zero, List.set_cons_succ, List.getElem_toArray, List.getElem_cons_zero, List.getElem_cons_succ]
  refine wpAnyH_take (i := 10) (v := ?_) rfl (by kernel_rfl) (by kernel_rfl) (by kernel_rfl) (fun _ _ _ h => h) (Or.inl ⟨by rfl, ?_⟩) hHeld ?_
  rotate_left 1
  · intro w hSw
    try dsimp only at hSw
    first | (go_simp; done) | (go_simp; with_reducible rfl)
  simp only [Act.put, List.setIfInBounds_toArray, List.set_cons_zero, List.set_cons_succ, List.getElem_toArray, List.getElem_cons_zero, List.getElem_cons_succ]
  refine wpAnyH_take (i := 11) (v := ?_) rfl (by kernel_rfl) (by kernel_rfl) (by kernel_rfl) (fun _ _ _ h => h) (Or.inl ⟨by rfl, ?_⟩) hHeld ?_
  rotate_left 1
  · intro w hSw
    try dsimp only at hSw
    first | (go_simp; done) | (go_simp; with_reducible rfl)
  simp only [Act.put, List.setIfInBounds_toArray, List.set_cons_zero, List.set_cons_succ, List.getElem_toArray, List.getElem_cons_zero, List.getElem_cons_succ]
  refine wpAnyH_take (i := 12) (v := ?_) rfl (by kernel_rfl) (by kernel_rfl) (by kernel_rfl) (fun _ _ _ h => h) (Or.inl ⟨by rfl, ?_⟩) hHeld ?_
  rotate_left 1
  · intro w hSw
    try dsimp only at hSw
    first | (go_simp; done) | (go_simp; with_reducible rfl)
  simp only [Act.put, List.setIfInBounds_toArray, List.set_cons_zero, List.set_cons_succ, List.getElem_toArray, List.getElem_cons_zero, List.getElem_cons_succ]
  refine wpAnyH_take (i := 13) (v := ?_) rfl (by kernel_rfl) (by kernel_rfl) (by kernel_rfl) (fun _ _ _ h => h) (Or.inl ⟨by rfl, ?_⟩) hHeld ?_
  rotate_left 1
  · intro w hSw
    try dsimp only at hSw
    first | (go_simp; done) | (go_simp; with_reducible rfl)
  simp only [Act.put, List.setIfInBounds_toArray, List.set_cons_zero, List.set_cons_succ, List.getElem_toArray, List.getElem_cons_zero, List.getElem_cons_succ]
  refine wpAnyH_take (i := 14) (v := ?_) rfl (by kernel_rfl) (by kernel_rfl) (by kernel_rfl) (fun _ _ _ h => h) (Or.inl ⟨by rfl, ?_⟩) hHeld ?_
  rotate_left 1
  · intro w hSw
    try dsimp only at hSw
    first | (go_simp; done) | (go_simp; with_reducible rfl)
  simp only [Act.put, List.setIfInBounds_toArray, List.set_cons_zero, List.set_cons_succ, List.getElem_toArray, List.getElem_cons_zero, List.getElem_cons_succ]
  refine wpAnyH_ready (rs := [15]) (by kernel_rfl) (by simp) ?_
  refine AllReadyH.cons rfl (fun KK hKK => ?_) AllReadyH.nil
  refine step_oneC 2 e0 f0 (.int .i64 (h.L.2.1 : Int)) (by kernel_rfl) rfl rfl rfl ?_
  have KK : Kept bb (bb + 1) w1.drew (w1.drew.setCell ⟨bb, off + i, none⟩ (.int .i64 (h.L.2.1 : Int))) := Kept.setCell (p := ⟨bb, off + i, none⟩) (Kept.refl _ _ _) (Nat.le_refl _) (Nat.lt_succ_self _) _
  replace R := R.intSet hiO (h.L.2.1 : Int)
  clear e0 f0
  generalize w1.drew.setCell ⟨bb, off + i, none⟩ (.int .i64 (h.L.2.1 : Int)) = V1 at *
  replace X0 := X0.kept KK (by omega)
  replace c0 := X0.cell
  replace X1 := X1.kept KK (by omega)
  replace c1 := X1.cell
  replace hR := Nat.le_trans hR KK.size
  replace B := B.trans (KK.below _ (by omega) B.size)
  clear KK
  clear hHeld
  refine hKK _ _ ⟨c0, c1⟩ (fun hHeld => ?_)
  clear hKK KK
  refine wpAnyH_done (by kernel_rfl) ?_ _
  go_wp2_with fail
  refine (sort_is bb off _ rc _ _ R ⟨by omega, hnO⟩).mono ?_
  rintro e w2 ⟨rfl, ⟨ys, R2, hp, hso⟩, KK⟩
  have HV : Hid _ := HG2.out ys hp hso
  clear R hp hso
  replace X0 := X0.kept KK (by omega)
  replace c0 := X0.cell
  replace X1 := X1.kept KK (by omega)
  replace c1 := X1.cell
  replace B := B.trans (KK.below _ (by omega) B.size)
  clear KK
  obtain ⟨b', o', q1, _, _, _, e0, _⟩ := R2.int hmO
  simp only [Option.some.injEq, Addr.mk.injEq, and_true] at q1
  obtain ⟨rfl, rfl⟩ := q1
  rw [HV.out] at e0
  go_wp2
  go_ret
  exact ⟨rfl, B⟩

end Go.Proofs.Ytpfocemiipmkiaa

/- Chapter 9: what enough have: AgreedBy of the program. -/
namespace Go.Proofs.Ytpfocemiipmkiaa
open Go.RowKit

theorem oksF_ok {m : Nat} : ∀ {xs : List Int}, oksF m xs = 0 → ∀ y ∈ xs, 0 ≤ y ∧ y ≤ (m : Int)
  | [], _, y, hy => by cases hy
  | x :: xs, h, y, hy => by
    rw [oksF] at h
    by_cases q : 0 ≤ x ∧ x ≤ (m : Int)
    · rw [if_pos q] at h
      rcases List.mem_cons.1 hy with rfl | hy
      · exact q
      · exact oksF_ok h y hy
    · rw [if_neg q] at h; cases h
/-- what a replica without fault is -/
theorem rep_ok {r : Rep} (h : repF r = 0) : numsP r ∧ lgF r.log r.commit = 0 ∧ (r.normal = true → r.last = r.view) ∧ sizesP r ∧ oksF r.log.length r.oks = 0 ∧ drsF r.doers = 0 := by
  unfold repF at h
  by_cases h1 : numsP r
  · rw [if_pos h1] at h
    by_cases h2 : lgF r.log r.commit = 0
    · rw [if_pos h2] at h
      by_cases h3 : (r.normal = true ∧ r.last ≠ r.view) ∨ ¬ sizesP r
      · rw [if_pos h3] at h; cases h
      · rw [if_neg h3] at h
        by_cases h4 : oksF r.log.length r.oks = 0
        · rw [if_pos h4] at h
          exact ⟨h1, h2, fun hn => Decidable.byContradiction fun q => h3 (Or.inl ⟨hn, q⟩), Decidable.byContradiction fun q => h3 (Or.inr q), h4, h⟩
        · rw [if_neg h4] at h; exact absurd h h4
    · rw [if_neg h2] at h; exact absurd h h2
  · rw [if_neg h1] at h; cases h
theorem lg_ok {xs : List En} {c : Int} (h : lgF xs c = 0) : logF xs = 0 ∧ 0 ≤ c ∧ c ≤ xs.length := by
  unfold lgF at h
  by_cases h1 : logF xs = 0
  · rw [if_pos h1] at h
    by_cases h2 : 0 ≤ c ∧ c ≤ xs.length
    · exact ⟨h1, h2⟩
    · rw [if_neg h2] at h; cases h
  · rw [if_neg h1] at h; exact absurd h h1
theorem log_len {xs : List En} (h : logF xs = 0) : xs.length ≤ 40 := by
  unfold logF at h
  by_cases q : 40 < xs.length
  · rw [if_pos q] at h; cases h
  · omega
def ledF (r : Rep) : Int := if repF r = 0 then (if leadsB r = true then 0 else 10) else repF r
/-- what a normal primary without fault is -/
structure Led (r : Rep) : Prop where
  size : 1 ≤ r.size ∧ r.size ≤ 5
  id : 0 ≤ r.id ∧ r.id ≤ r.size - 1
  view : 0 ≤ r.view ∧ r.view ≤ 200
  log : r.log.length ≤ 40
  commit : 0 ≤ r.commit ∧ r.commit ≤ r.log.length
  oks : (r.oks.length : Int) = r.size
  okb : ∀ y ∈ r.oks, 0 ≤ y ∧ y ≤ (r.log.length : Int)
theorem led_ok {r : Rep} (h : ledF r = 0) : repF r = 0 ∧ leadsB r = true ∧ Led r := by
  unfold ledF at h
  by_cases h1 : repF r = 0
  · rw [if_pos h1] at h
    by_cases h2 : leadsB r = true
    · obtain ⟨n, l, _, s, ok, _⟩ := rep_ok h1
      obtain ⟨l1, l2⟩ := lg_ok l
      have s1 := s.1
      rw [if_pos h2] at s1
      exact ⟨h1, h2, n.1, n.2.1, n.2.2.1, log_len l1, l2, s1, oksF_ok ok⟩
    · rw [if_neg h2] at h; cases h
  · rw [if_neg h1] at h; exact absurd h h1
set_option maxRecDepth 20000 in
set_option maxHeartbeats 2000000 in
theorem primaryFault_is {own : Bool} {lo hi : Nat} (r : Rep) (h : RH) (w : World) (x : RepAt w own lo hi h r) (hz : RSz h 2097152) (d : Int) (hd : ledF r = d) : Calls Try.prog 45 #[.agg #[.int .i64 r.id, .int .i64 r.size, .int .i64 r.view, .bool r.normal, .int .i64 r.last, .slice h.L.1 h.L.2.1 h.L.2.2, .int .i64 r.commit, .slice h.O.1 h.O.2.1 h.O.2.2, .slice h.A.1 h.A.2.1 h.A.2.2, .slice h.D.1 h.D.2.1 h.D.2.2]] w fun e w' => e = .returned (.int .i64 d) ∧ Below w.heap.size w w' := by
  unfold ledF at hd
  obtain ⟨c, hc⟩ : ∃ c, repF r = c := ⟨_, rfl⟩
  rw [hc] at hd
  have HC : Hid _ := hc
  clear hc
  go_enter Try.func45, Try.ntmps45
  go_wp2_with (first | ((with_reducible refine box_newX 29 [.int .i64 r.id, .int .i64 r.size, .int .i64 r.view, .bool r.normal, .int .i64 r.last, .slice h.L.1 h.L.2.1 h.L.2.2, .int .i64 r.commit, .slice h.O.1 h.O.2.1 h.O.2.2, .slice h.A.1 h.A.2.1 h.A.2.2, .slice h.D.1 h.D.2.1 h.D.2.2] rfl ?_); intro b0 W0 N0; have ob0 : w.heap.size ≤ b0 := N0.ge; have B := N0.below; have X0 := N0.bx; have c0 := X0.cell; clear N0) | fail)
  refine (implRF_is r h _ (x.below B) hz c HC.out).mono ?_
  rintro e w1 ⟨rfl, BB⟩
  replace X0 := X0.below BB
  replace c0 := X0.cell
  replace B := below_next B BB
  clear BB
  by_cases h0 : c = 0
  · subst h0
    rw [if_pos rfl] at hd
    obtain ⟨N, -⟩ := rep_ok HC.out
    have hs := N.1
    have hv : 0 ≤ r.view ∧ r.view ≤ 300 := by have := N.2.2.1; omega
    clear N
    obtain ⟨l, hl⟩ : ∃ l, leadsB r = l := ⟨_, rfl⟩
    rw [hl] at hd
    have HL : Hid _ := hl
    clear hl
    go_wp2_with fail
    refine (leads_is' r h hs hv _ l HL.out).mono ?_
    rintro e w2 ⟨rfl, BB⟩
    replace X0 := X0.below BB
    replace c0 := X0.cell
    replace B := below_next B BB
    clear BB
    cases l
    · rw [if_neg (by simp)] at hd
      subst hd
      go_wp2
      go_ret
      exact ⟨rfl, B⟩
    · rw [if_pos rfl] at hd
      subst hd
      go_wp2
      go_ret
      exact ⟨rfl, B⟩
  · rw [if_neg h0] at hd
    subst hd
    have h0' : (c != 0) = true := by simp [h0]
    go_wp2
    go_ret
    exact ⟨rfl, B⟩
def agbV (r : Rep) : Int := if ledF r = 0 then agrR r else 0
set_option maxRecDepth 20000 in
set_option maxHeartbeats 2000000 in
theorem implAgb_is {own : Bool} {lo hi : Nat} (r : Rep) (h : RH) (w : World) (x : RepAt w own lo hi h r) (hz : RSz h 1048576) (c v : Int) (hc : ledF r = c) (hv : agbV r = v) : Calls Try.prog 16 #[.agg #[.int .i64 r.id, .int .i64 r.size, .int .i64 r.view, .bool r.normal, .int .i64 r.last, .slice h.L.1 h.L.2.1 h.L.2.2, .int .i64 r.commit, .slice h.O.1 h.O.2.1 h.O.2.2, .slice h.A.1 h.A.2.1 h.A.2.2, .slice h.D.1 h.D.2.1 h.D.2.2]] w fun e w' => e = .returned (.agg #[.int .i64 c, .int .i64 v]) ∧ Below w.heap.size w w' := by
  unfold agbV at hv
  rw [hc] at hv
  have HC : Hid _ := hc
  clear hc
  go_enter Try.func16, Try.ntmps16
  go_wp2_with (first | ((have g := ob0); clear g; (with_reducible refine alloc_newX 41 [.int .i64 0, .int .i64 0] (fun _ => by kernel_rfl) ?_); intro b1 W1 N1; have ob1 : w.heap.size ≤ b1 := Nat.le_trans B.size N1.ge; have o0_b1 : b0 < b1 := Nat.lt_of_lt_of_le X0.lt N1.ge; replace X0 := X0.below N1.below; replace c0 := X0.cell; replace B := below_next B N1.below; have X1 := N1.bx; have c1 := X1.cell; have f1 := X1.froz; clear N1) | ((with_reducible refine box_newX 29 [.int .i64 r.id, .int .i64 r.size, .int .i64 r.view, .bool r.normal, .int .i64 r.last, .slice h.L.1 h.L.2.1 h.L.2.2, .int .i64 r.commit, .slice h.O.1 h.O.2.1 h.O.2.2, .slice h.A.1 h.A.2.1 h.A.2.2, .slice h.D.1 h.D.2.1 h.D.2.2] rfl ?_); intro b0 W0 N0; have ob0 : w.heap.size ≤ b0 := N0.ge; have B := N0.below; have X0 := N0.bx; have c0 := X0.cell; clear N0) | fail)
  refine (primaryFault_is r h _ (x.below B) (hz.mono (by omega)) c HC.out).mono ?_
  rintro e w1 ⟨rfl, BB⟩
  replace X0 := X0.below BB
  replace c0 := X0.cell
  replace X1 := X1.below BB
  replace c1 := X1.cell
  replace f1 := X1.froz
  replace B := below_next B BB
  clear BB
  by_cases h0 : c = 0
  · subst h0
    rw [if_pos rfl] at hv
    subst hv
    obtain ⟨-, -, L⟩ := led_ok HC.out
    go_wp2_with fail
    refine (primaryFor_z r h _ (x.below B) hz).mono ?_
    rintro e w2 ⟨bq, z, u, h', rfl, Gz, uq, Gq, XQ, R, HZ, BB⟩
    have o1_q : b1 < bq := Nat.lt_of_lt_of_le X1.lt Gq
    clear Gz Gq
    replace X0 := X0.below BB
    replace c0 := X0.cell
    replace X1 := X1.below BB
    replace c1 := X1.cell
    replace f1 := X1.froz
    replace B := below_next B BB
    clear BB
    go_wp2_with fail
    refine (agreed_is r h' (none, 0, 0) bq _ XQ R L.size L.id L.oks L.okb).mono ?_
    rintro e w3 ⟨rfl, BB⟩
    replace X0 := X0.below BB
    replace c0 := X0.cell
    replace X1 := X1.below BB
    replace c1 := X1.cell
    replace f1 := X1.froz
    replace B := below_next B BB
    clear BB
    go_wp2_with (first | ((with_reducible refine store_midX 41 X1 0 [.int .i64 0, .int .i64 (agrR r)] (by simp) (by kernel_rfl) (by simp [Value.oneCell']) rfl rfl ?_); intro V1 S; replace X0 := X0.kept S.kept (by omega); replace c0 := X0.cell; replace X1 : Bx V1 b1 [.int .i64 0, .int .i64 (agrR r)] := S.bx; replace c1 := X1.cell; replace f1 := X1.froz; replace B := B.trans (S.kept.below _ (by omega) B.size); clear S))
    refine bodyPost_ret (v := .agg #[.int .i64 0, .int .i64 (agrR r)]) (by simp [results, Try.results16, go_sem, *]) rfl ⟨rfl, B⟩
  · rw [if_neg h0] at hv
    subst hv
    have h0' : (c != 0) = true := by simp [h0]
    go_wp2_with (first | ((with_reducible refine store_midX 41 X1 0 [.int .i64 c, .int .i64 0] (by simp) (by kernel_rfl) (by simp [Value.oneCell']) rfl rfl ?_); intro V1 S; replace X0 := X0.kept S.kept (by omega); replace c0 := X0.cell; replace X1 : Bx V1 b1 [.int .i64 c, .int .i64 0] := S.bx; replace c1 := X1.cell; replace f1 := X1.froz; replace B := B.trans (S.kept.below _ (by omega) B.size); clear S))
    refine bodyPost_ret (v := .agg #[.int .i64 c, .int .i64 0]) (by simp [results, Try.results16, go_sem, *]) rfl ⟨rfl, B⟩

end Go.Proofs.Ytpfocemiipmkiaa

/- Chapter 9: what enough have: AgreedBy of the model. -/
namespace Go.Proofs.Ytpfocemiipmkiaa
open Go.RowKit

theorem cntA_in (oks : List Int) (id k : Int) : ∀ n : Nat, 1 ≤ cntA oks id k n ∧ cntA oks id k n ≤ (n : Int) + 1
  | 0 => by simp [cntA]
  | n + 1 => by have := cntA_in oks id k n; rw [cntA]; split <;> omega
set_option maxRecDepth 20000 in
set_option maxHeartbeats 2000000 in
theorem l9Enough_is (n : Int) (hn : 1 ≤ n ∧ n ≤ 5) (w : World) : Calls Try.prog 121 #[.int .i64 n] w fun e w' => e = .returned (.int .i64 (n / 2 + 1)) ∧ w' = w := by
  have hc : n = 1 ∨ n = 2 ∨ n = 3 ∨ n = 4 ∨ n = 5 := by omega
  clear hn
  rcases hc with rfl | rfl | rfl | rfl | rfl
  all_goals
    go_enter Try.func121, Try.ntmps121
    go_wp2
    go_ret
    exact ⟨rfl, rfl⟩
set_option maxRecDepth 20000 in
set_option maxHeartbeats 2000000 in
theorem l9Agreed_is {own : Bool} {lo hi : Nat} (r : Rep) (h : RH) (b0 : Nat) (w : World) (X0 : Bx w b0 [.int .i64 r.id, .int .i64 r.size, .int .i64 r.view, .bool r.normal, .int .i64 r.last, .slice h.L.1 h.L.2.1 h.L.2.2, .int .i64 r.commit, .slice h.O.1 h.O.2.1 h.O.2.2, .slice h.A.1 h.A.2.1 h.A.2.2, .slice h.D.1 h.D.2.1 h.D.2.2]) (x : RepAt w own lo hi h r) (hs : 1 ≤ r.size ∧ r.size ≤ 5) (hid : 0 ≤ r.id ∧ r.id ≤ r.size - 1) (hlo : r.log.length ≤ 40) (hl : (r.oks.length : Int) = r.size) :
    Calls Try.prog 55 #[.pointer (some ⟨b0, 0, none⟩)] w fun e w' => e = .returned (.int .i64 (agrR r)) ∧ w' = w := by
  have hol := x.oks.nInts
  have hll := x.log.nSixs
  have hxo := x.oks
  have HA : Hid (agrTo r.oks r.id r.size h.L.2.1 = agrR r) := by show _ = _; unfold agrR; rw [hll]
  obtain ⟨id, size, view, normal, last, log, commit, oks, asks, doers⟩ := r
  simp only at X0 hs hid hlo hl hol hll hxo HA
  generalize agrR _ = res at *
  obtain ⟨m, rfl⟩ : ∃ m : Nat, size = m := ⟨size.toNat, by omega⟩
  obtain ⟨i0, rfl⟩ : ∃ i0 : Nat, id = i0 := ⟨id.toNat, by omega⟩
  have HmO : Hid (m = h.O.2.1) := (by omega : m = h.O.2.1)
  have hLl : h.L.2.1 ≤ 40 := by omega
  clear x hll hol hl hlo log asks doers
  have c0 := X0.cell
  go_enter Try.func55, Try.ntmps55
  go_wp2
  go_loopw [3, 4, 5] (fun kv _ _ wr => ∃ k : Nat, k ≤ h.L.2.1 ∧ kv = .int .i64 k ∧ Hid (agrTo oks i0 m k = res) ∧ w = wr) (fun kv _ _ _ => (intOf kv).toNat)
  case atStart => exact ⟨_, Nat.le_refl _, rfl, HA, rfl⟩
  case round =>
    obtain ⟨k, hk, rfl, HK, rfl⟩ := hrel
    clear HA
    by_cases h0 : k = 0
    · subst h0
      have hd : res = 0 := by rw [← HK.out, agrTo]
      subst hd
      go_wp2
      go_ret
      exact ⟨rfl, rfl⟩
    obtain ⟨p, rfl⟩ : ∃ p, k = p + 1 := ⟨k - 1, by omega⟩
    clear h0
    have hp0 : (0 : Int) < ((p + 1 : Nat) : Int) := by omega
    have s2 : ((p + 1 : Nat) : Int) = (p : Int) + 1 := by simp
    have hp1 : (0 : Int) < (p : Int) + 1 := by omega
    have s0 : IntKind.i64.wrap (p : Int) = p := wrapI_same _ (by omega)
    have HK2 : Hid _ := HK.out
    rw [agrTo] at HK2
    clear HK
    go_wp2
    go_loopw [4, 5] (fun hv iv wr => ∃ i : Nat, i ≤ m ∧ iv = .int .i64 i ∧ hv = .int .i64 (cntA oks i0 ((p : Int) + 1) i) ∧ w = wr) (fun _ iv _ => m - (intOf iv).toNat)
    case atStart => exact ⟨0, Nat.zero_le _, rfl, rfl, rfl⟩
    case round =>
      obtain ⟨i, hi, rfl, rfl, rfl⟩ := hrel
      have hb := cntA_in oks i0 ((p : Int) + 1) i
      by_cases hlt : i < m
      · have hli : (i : Int) < (m : Int) := by omega
        have hlo : (i : Int) < (h.O.2.1 : Int) := by have := HmO.out; omega
        have HS : Hid (cntA oks i0 ((p : Int) + 1) (i + 1) = cntA oks i0 ((p : Int) + 1) i + (if (i : Int) ≠ (i0 : Int) ∧ (p : Int) + 1 ≤ oks.getD i 0 then 1 else 0)) := rfl
        obtain ⟨b, off, eo, _, _, _, e0, _⟩ := hxo.int (k := i) (by have := HmO.out; omega)
        rw [eo] at c0 X0
        generalize oks.getD i 0 = y at *
        generalize hcc : cntA oks i0 ((p : Int) + 1) i = cc at *
        have w1 : IntKind.i64.wrap (cc + 1) = cc + 1 := wrapI_same _ (by omega)
        by_cases q1 : (i : Int) = i0
        · have q1' : ((i : Int) != (i0 : Int)) = false := by simp [q1]
          have HT : Hid _ := HS.out
          rw [if_neg (fun z => z.1 q1), Int.add_zero] at HT
          clear q1 HS hcc
          go_wp2
          go_roundw
          case rel => exact ⟨i + 1, by omega, by go_num, by rw [HT.out], by first | rfl | trivial⟩
          case measure => simp [intOf]; omega
        have q1' : ((i : Int) != (i0 : Int)) = true := by simp [q1]
        by_cases q2 : (p : Int) + 1 ≤ y
        · have HT : Hid _ := HS.out
          rw [if_pos ⟨q1, q2⟩] at HT
          clear q1 HS hcc
          go_wp2
          go_roundw
          case rel => exact ⟨i + 1, by omega, by go_num, by rw [HT.out], by first | rfl | trivial⟩
          case measure => simp [intOf]; omega
        · have HT : Hid _ := HS.out
          rw [if_neg (fun z => q2 z.2), Int.add_zero] at HT
          clear q1 HS hcc
          go_wp2
          go_roundw
          case rel => exact ⟨i + 1, by omega, by go_num, by rw [HT.out], by first | rfl | trivial⟩
          case measure => simp [intOf]; omega
      · obtain rfl : i = m := by omega
        have HX : Hid _ := HK2.out
        rw [Int.toNat_natCast] at HX
        clear HK2
        generalize cntA oks i0 ((p : Int) + 1) i = cc at *
        go_wp2_with fail
        refine (l9Enough_is i (by omega) _).mono ?_
        rintro e W9 ⟨rfl, rfl⟩
        by_cases q : (i : Int) / 2 + 1 ≤ cc
        · have e : res = (p : Int) + 1 := by rw [← HX.out, if_pos q]
          subst e
          go_wp2
          go_ret
          exact ⟨rfl, rfl⟩
        · have HY : Hid _ := HX.out
          rw [if_neg q] at HY
          clear HX
          go_wp2
          go_roundw
          case rel => exact ⟨p, by omega, by go_num, HY, by first | rfl | trivial⟩
          case measure => simp [intOf]
set_option maxRecDepth 20000 in
set_option maxHeartbeats 2000000 in
theorem l9Led_is {own : Bool} {lo hi : Nat} (r : Rep) (h : RH) (b0 : Nat) (w : World) (X0 : Bx w b0 [.int .i64 r.id, .int .i64 r.size, .int .i64 r.view, .bool r.normal, .int .i64 r.last, .slice h.L.1 h.L.2.1 h.L.2.2, .int .i64 r.commit, .slice h.O.1 h.O.2.1 h.O.2.2, .slice h.A.1 h.A.2.1 h.A.2.2, .slice h.D.1 h.D.2.1 h.D.2.2]) (x : RepAt w own lo hi h r) (hz : RSz h 2097152) (d : Int) (hd : ledF r = d) : Calls Try.prog 50 #[.pointer (some ⟨b0, 0, none⟩)] w fun e w' => e = .returned (.int .i64 d) ∧ Below w.heap.size w w' := by
  unfold ledF at hd
  obtain ⟨c, hc⟩ : ∃ c, repF r = c := ⟨_, rfl⟩
  rw [hc] at hd
  have HC : Hid _ := hc
  clear hc
  have c0 := X0.cell
  have ob0 := X0.lt
  go_enter Try.func50, Try.ntmps50
  go_wp2_with fail
  refine (l9Fault_is b0 r h _ X0 x hz c HC.out).mono ?_
  rintro e w1 ⟨rfl, BB⟩
  replace X0 := X0.below BB
  replace c0 := X0.cell
  have B := BB
  clear BB
  by_cases h0 : c = 0
  · subst h0
    rw [if_pos rfl] at hd
    obtain ⟨N, -⟩ := rep_ok HC.out
    have hs := N.1
    have hv : 0 ≤ r.view ∧ r.view ≤ 300 := by have := N.2.2.1; omega
    clear N
    unfold leadsB at hd
    by_cases hn : r.normal = true
    · rw [hn, Bool.true_and] at hd
      rw [hn] at X0 c0
      go_wp2_with fail
      obtain ⟨l, hl⟩ : ∃ l, (r.view % r.size == r.id) = l := ⟨_, rfl⟩
      rw [hl] at hd
      have HL : Hid _ := hl
      clear hl
      refine (l9Primary_is b0 r.id r.size r.view true r.last h.L r.commit h.O h.A h.D hs hv _ X0).mono ?_
      rintro e w2 ⟨rfl, BB⟩
      rw [HL.out]
      replace B := below_next B BB
      clear BB X0 c0
      cases l
      · rw [if_neg (by simp)] at hd
        subst hd
        go_wp2
        go_ret
        exact ⟨rfl, B⟩
      · rw [if_pos rfl] at hd
        subst hd
        go_wp2
        go_ret
        exact ⟨rfl, B⟩
    · have hn' : r.normal = false := by simpa using hn
      rw [hn', Bool.false_and, if_neg (by simp)] at hd
      subst hd
      rw [hn'] at X0 c0
      go_wp2
      go_ret
      exact ⟨rfl, B⟩
  · rw [if_neg h0] at hd
    subst hd
    have h0' : (c != 0) = true := by simp [h0]
    go_wp2
    go_ret
    exact ⟨rfl, B⟩
set_option maxRecDepth 20000 in
set_option maxHeartbeats 2000000 in
theorem specAgb_is {own : Bool} {lo hi : Nat} (r : Rep) (h : RH) (w : World) (x : RepAt w own lo hi h r) (hz : RSz h 1048576) (c v : Int) (hc : ledF r = c) (hv : agbV r = v) : Calls Try.prog 39 #[.agg #[.int .i64 r.id, .int .i64 r.size, .int .i64 r.view, .bool r.normal, .int .i64 r.last, .slice h.L.1 h.L.2.1 h.L.2.2, .int .i64 r.commit, .slice h.O.1 h.O.2.1 h.O.2.2, .slice h.A.1 h.A.2.1 h.A.2.2, .slice h.D.1 h.D.2.1 h.D.2.2]] w fun e w' => e = .returned (.agg #[.int .i64 c, .int .i64 v]) ∧ Below w.heap.size w w' := by
  unfold agbV at hv
  rw [hc] at hv
  have HC : Hid _ := hc
  clear hc
  go_enter Try.func39, Try.ntmps39
  go_wp2_with (first | ((have g := ob0); clear g; (with_reducible refine alloc_newX 41 [.int .i64 0, .int .i64 0] (fun _ => by kernel_rfl) ?_); intro b1 W1 N1; have ob1 : w.heap.size ≤ b1 := Nat.le_trans B.size N1.ge; have o0_b1 : b0 < b1 := Nat.lt_of_lt_of_le X0.lt N1.ge; replace X0 := X0.below N1.below; replace c0 := X0.cell; replace B := below_next B N1.below; have X1 := N1.bx; have c1 := X1.cell; have f1 := X1.froz; clear N1) | ((with_reducible refine box_newX 29 [.int .i64 r.id, .int .i64 r.size, .int .i64 r.view, .bool r.normal, .int .i64 r.last, .slice h.L.1 h.L.2.1 h.L.2.2, .int .i64 r.commit, .slice h.O.1 h.O.2.1 h.O.2.2, .slice h.A.1 h.A.2.1 h.A.2.2, .slice h.D.1 h.D.2.1 h.D.2.2] rfl ?_); intro b0 W0 N0; have ob0 : w.heap.size ≤ b0 := N0.ge; have B := N0.below; have X0 := N0.bx; have c0 := X0.cell; clear N0) | fail)
  refine (l9Led_is r h b0 _ X0 (x.below B) (hz.mono (by omega)) c HC.out).mono ?_
  rintro e w1 ⟨rfl, BB⟩
  replace X0 := X0.below BB
  replace c0 := X0.cell
  replace X1 := X1.below BB
  replace c1 := X1.cell
  replace f1 := X1.froz
  replace B := below_next B BB
  clear BB
  by_cases h0 : c = 0
  · subst h0
    rw [if_pos rfl] at hv
    subst hv
    obtain ⟨-, -, L⟩ := led_ok HC.out
    go_wp2_with fail
    refine (l9Agreed_is r h b0 _ X0 (x.below B) L.size L.id L.log L.oks).mono ?_
    rintro e W9 ⟨rfl, rfl⟩
    go_wp2_with (first | ((with_reducible refine store_midX 41 X1 0 [.int .i64 0, .int .i64 (agrR r)] (by simp) (by kernel_rfl) (by simp [Value.oneCell']) rfl rfl ?_); intro V1 S; replace X0 := X0.kept S.kept (by omega); replace c0 := X0.cell; replace X1 : Bx V1 b1 [.int .i64 0, .int .i64 (agrR r)] := S.bx; replace c1 := X1.cell; replace f1 := X1.froz; replace B := B.trans (S.kept.below _ (by omega) B.size); clear S))
    refine bodyPost_ret (v := .agg #[.int .i64 0, .int .i64 (agrR r)]) (by simp [results, Try.results39, go_sem, *]) rfl ⟨rfl, B⟩
  · rw [if_neg h0] at hv
    subst hv
    have h0' : (c != 0) = true := by simp [h0]
    go_wp2_with (first | ((with_reducible refine store_midX 41 X1 0 [.int .i64 c, .int .i64 0] (by simp) (by kernel_rfl) (by simp [Value.oneCell']) rfl rfl ?_); intro V1 S; replace X0 := X0.kept S.kept (by omega); replace c0 := X0.cell; replace X1 : Bx V1 b1 [.int .i64 c, .int .i64 0] := S.bx; replace c1 := X1.cell; replace f1 := X1.froz; replace B := B.trans (S.kept.below _ (by omega) B.size); clear S))
    refine bodyPost_ret (v := .agg #[.int .i64 c, .int .i64 0]) (by simp [results, Try.results39, go_sem, *]) rfl ⟨rfl, B⟩

end Go.Proofs.Ytpfocemiipmkiaa

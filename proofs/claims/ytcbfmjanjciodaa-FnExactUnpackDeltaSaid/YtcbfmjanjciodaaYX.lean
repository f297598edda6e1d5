/- Chapter 7: words read on, by the program. -/
import Derived.Test.YtcbfmjanjciodaaEX
import Derived.Test.YtcbfmjanjciodaaYW
import Derived.Test.YtcbfmjanjciodaaJ2
import Derived.Test.YtcbfmjanjciodaaYR
import Derived.Test.YtcbfmjanjciodaaYS
namespace Go.Proofs.Ytcbfmjanjciodaa
open Go.RowKit

/-- all elder blocks but some are as they were -/
structure ButS (S : Nat → Prop) (w w' : World) : Prop where
  os : w'.os = w.os
  tape : w'.tape = w.tape
  output : w'.output = w.output
  size : w.heap.size ≤ w'.heap.size
  block : ∀ k, k < w.heap.size → ¬ S k → w'.heap[k]? = w.heap[k]?
theorem ButS.refl (S : Nat → Prop) (w : World) : ButS S w w := ⟨rfl, rfl, rfl, Nat.le_refl _, fun _ _ _ => rfl⟩
theorem ButS.next {S : Nat → Prop} {w a c : World} (h : ButS S w a) (k : Below w.heap.size a c) : ButS S w c :=
  ⟨k.os.trans h.os, k.tape.trans h.tape, k.output.trans h.output, Nat.le_trans h.size k.size, fun i hi hne => (k.block i hi).trans (h.block i hi hne)⟩
theorem ButS.but {S : Nat → Prop} {b : Nat} {w a c : World} (h : ButS S w a) (k : But b a c) (hb : S b) : ButS S w c :=
  ⟨k.os.trans h.os, k.tape.trans h.tape, k.output.trans h.output, Nat.le_trans h.size k.size, fun i hi hne => (k.block i (Nat.lt_of_lt_of_le hi h.size) (fun e => hne (e ▸ hb))).trans (h.block i hi hne)⟩
theorem ButS.below {S : Nat → Prop} {B : Nat} {w a : World} (h : ButS S w a) (hb : ∀ k, S k → B ≤ k) (hB : B ≤ w.heap.size) : Below B w a := ⟨h.os, h.tape, h.output, h.size, fun k hk => h.block k (Nat.lt_of_lt_of_le hk hB) (fun e => by have := hb k e; omega)⟩
theorem ButS.row {S : Nat → Prop} {w a : World} (h : ButS S w a) {own : Bool} {lo hi size : Nat} {ao : Option Addr} {n cap : Nat} {cs : List Value} (r : RowAt w own lo hi size ao n cap cs) (hd : ∀ k, S k → k < lo) : RowAt a own lo hi size ao n cap cs := by
  refine ⟨r.len, r.le, fun hn => ?_⟩
  obtain ⟨g, off, rfl, h1, h2, h3, h4, h5⟩ := r.cells hn
  have hbl := h.block g h3 (fun e => by have := hd g e; omega)
  exact ⟨g, off, rfl, h1, h2, Nat.lt_of_lt_of_le h3 h.size, fun i hi' => by rw [World.cell?_of_block (w := w) (a := ⟨g, off + i, none⟩) hbl]; exact h4 i hi', fun ho i hi' => by rw [World.frozen?_of_block (w := w) (a := ⟨g, off + i, none⟩) hbl]; exact h5 ho i hi'⟩
/-- a reader stands at the words rs -/
structure ReadAt (w : World) (rb : Nat) (o : Bool) (lo hi : Nat) (rs : List Int) : Prop where
  lt : rb < w.heap.size
  fr : w.frozen? ⟨rb, 0, none⟩ = false
  ok : ∃ ad m cc, w.cell? ⟨rb, 0, none⟩ = some (.slice (some ad) m cc) ∧ RowAt w o lo hi 1 (some ad) m cc (ints rs)
  out : hi ≤ rb
  sm : rs.length ≤ 2097152
theorem ReadAt.below {w w' : World} {rb : Nat} {o : Bool} {lo hi : Nat} {rs : List Int} (h : ReadAt w rb o lo hi rs) (B : Below w.heap.size w w') : ReadAt w' rb o lo hi rs := by
  obtain ⟨ad, m, cc, g, r⟩ := h.ok
  exact ⟨Nat.lt_of_lt_of_le h.lt B.size, frozen_later B h.lt h.fr, ⟨ad, m, cc, cell_later B g, r.below B⟩, h.out, h.sm⟩
theorem ReadAt.belowIn {w w' : World} {rb : Nat} {o : Bool} {lo hi : Nat} {rs : List Int} (h : ReadAt w rb o lo hi rs) {N : Nat} (B : Below N w w') (hN : rb < N) : ReadAt w' rb o lo hi rs := by
  obtain ⟨ad, m, cc, g, r⟩ := h.ok
  exact ⟨Nat.lt_of_lt_of_le h.lt B.size, (B.frozen (p := ⟨rb, 0, none⟩) hN).trans h.fr, ⟨ad, m, cc, (B.cell (p := ⟨rb, 0, none⟩) hN).trans g, r.belowIn B (Nat.le_trans h.out (Nat.le_of_lt hN))⟩, h.out, h.sm⟩
theorem ReadAt.but {w w' : World} {rb b : Nat} {o : Bool} {lo hi : Nat} {rs : List Int} (h : ReadAt w rb o lo hi rs) (K : But b w w') (hne : rb < b) : ReadAt w' rb o lo hi rs := by
  obtain ⟨ad, m, cc, g, r⟩ := h.ok
  exact ⟨Nat.lt_of_lt_of_le h.lt K.size, frozen_of_but K h.lt h.fr (Nat.ne_of_lt hne), ⟨ad, m, cc, cell_of_but K g (Nat.ne_of_lt hne), K.row r (Or.inl (Nat.le_trans h.out (Nat.le_of_lt hne)))⟩, h.out, h.sm⟩
set_option maxRecDepth 20000 in
set_option maxHeartbeats 4000000 in
theorem next_is (rb : Nat) {o : Bool} {lo hi : Nat} (rs : List Int) (w : World) (h : ReadAt w rb o lo hi rs) (d : Int) (hd : rs.getD 0 0 = d) (t : List Int) (ht : rs.drop 1 = t) : Calls Try.prog 186 #[.pointer (some ⟨rb, 0, none⟩)] w fun e w' => e = .returned (.int .i64 d) ∧ ReadAt w' rb o lo hi t ∧ But rb w w' := by
  obtain ⟨ad, m, cc, g, r⟩ := h.ok
  have hl := r.nInts
  have hle := r.le
  have hsm := h.sm
  have HH : Hid _ := h
  have HD : Hid _ := hd
  have HT : Hid _ := ht
  clear h hd ht
  by_cases hm : m = 0
  · subst hm
    have h0 : (((0 : Nat) : Int) == 0) = true := rfl
    have e0 : rs = [] := List.eq_nil_of_length_eq_zero hl
    subst e0
    have HE : Hid (d = 0) := HD.out.symm
    go_enter Try.func186, Try.ntmps186
    go_wp2
    go_ret
    exact ⟨ret_int HE.out.symm, by rw [← HT.out]; exact HH.out, But.refl _ _⟩
  · have h0 : ((m : Int) == 0) = false := by simp [hm]
    have hmi : (0 : Int) < (m : Int) := by omega
    obtain ⟨b, off, e, hlo, hhi, hbs, v0, _⟩ := r.int (show 0 < m by omega)
    have e2 : ad = ⟨b, off, none⟩ := Option.some.inj e
    subst e2
    rw [Nat.add_zero, HD.out] at v0
    have f0 := HH.out.fr
    have s1 : (1 : Int) ≤ (m : Int) := by omega
    have s2 : (m : Int) ≤ (cc : Int) := by omega
    by_cases hc : cc = 1
    · have hm1 : m = 1 := by omega
      subst hm1 hc
      have S := setC_mk (v := .slice (some ⟨b, off, none⟩) 0 0) g f0
      have R1 : ReadAt (w.setCell ⟨rb, 0, none⟩ (.slice (some ⟨b, off, none⟩) 0 0)) rb o lo hi t := by rw [← HT.out]; exact ⟨Nat.lt_of_lt_of_le HH.out.lt S.kept.size, S.fr f0, ⟨_, _, _, S.cell, ⟨by rw [ints_length, List.length_drop, hl], Nat.le_refl _, fun q => absurd rfl q⟩⟩, HH.out.out, by rw [List.length_drop]; omega⟩
      have B1 : But rb w (w.setCell ⟨rb, 0, none⟩ (.slice (some ⟨b, off, none⟩) 0 0)) := (But.refl _ _).set _
      clear S
      go_enter Try.func186, Try.ntmps186
      go_wp2
      go_ret
      exact ⟨rfl, R1, B1⟩
    · have hci : ¬ (cc - 1 = 0) := by omega
      have hcI : ¬ (1 : Int) = (cc : Int) := by omega
      have hc1 : ¬ 1 = cc := by omega
      have S := setC_mk (v := .slice (some ⟨b, off + 1, none⟩) (m - 1) (cc - 1)) g f0
      have rr : RowAt w o lo hi 1 (some ⟨b, off + 1, none⟩) (m - 1) (cc - 1) (ints (rs.drop 1)) := by
        have := r.sub (i := 1) (m := m - 1) (c := cc - 1) (by omega) (by omega)
        rwa [List.take_of_length_le (by rw [List.length_drop]; omega)] at this
      have R1 : ReadAt (w.setCell ⟨rb, 0, none⟩ (.slice (some ⟨b, off + 1, none⟩) (m - 1) (cc - 1))) rb o lo hi t := by rw [← HT.out]; exact ⟨Nat.lt_of_lt_of_le HH.out.lt S.kept.size, S.fr f0, ⟨_, _, _, S.cell, rr.kept S.kept (Or.inl HH.out.out)⟩, HH.out.out, by rw [List.length_drop]; omega⟩
      have B1 : But rb w (w.setCell ⟨rb, 0, none⟩ (.slice (some ⟨b, off + 1, none⟩) (m - 1) (cc - 1))) := (But.refl _ _).set _
      clear S rr
      go_enter Try.func186, Try.ntmps186
      go_wp2
      go_ret
      exact ⟨rfl, R1, B1⟩
theorem run_min2 (x y N : Int) (h : N = min x y) (w : World) : (Builtin.min2 (.int .i64 x) (.int .i64 y)).run Try.prog w = .ok (.int .i64 N) w := by
  by_cases h1 : x ≤ y
  · have e : N = x := by omega
    rw [e]
    unfold Builtin.min2
    simp [go_sem]
    omega
  · have e : N = y := by omega
    rw [e]
    unfold Builtin.min2
    simp [go_sem]
    omega
theorem run_min (x y N : Int) (h : N = min x y) (ty : TypeId) (w : World) : (Builtin.min_ #[2, 2] ty #[.int .i64 x, .int .i64 y]).run Try.prog w = .ok (.int .i64 N) w := by
  simp [Builtin.min_, go_sem]
  exact run_min2 x y N h w
theorem wp_min {ops : Array Oper} {rest : List Oper} {o : Oper} {a : Act} {w : World} {Q : Exit → Act → World → Prop} (hgd : o.guard = none) (s x : Operand)
    (ho : o.op = .call { callee := .builtin .min, args := #[s, x], argTypes := #[2, 2] }) (u v N : Int) (hs : a.eval s = .int .i64 u) (hx : a.eval x = .int .i64 v) (hN : N = min u v)
    (h : wpList Try.prog ops Q rest (a.put o.dst (.int .i64 N)) w) : wpList Try.prog ops Q (o :: rest) a w :=
  wpList_plain hgd fun K hK => by
    have hr := run_min u v N hN o.type w
    unfold Oper.wp execOp
    simp only [ho, resolve, invoke, builtin, Sem.run_bind, Sem.run_pure, Result.andThen_ok, List.map_toArray, List.map_cons, List.map_nil, hs, hx, hr]
    exact hK _ _ h
theorem owns_of_but {b : Nat} {w w' : World} (K : But b w w') {base : Nat} {e : TypeId} {size : Nat} {v : Value} {n : Nat} {cs : List Value} (h : w.ownsRow base e size v n cs) (hb : b < base) : w'.ownsRow base e size v n cs := by
  refine ⟨h.1, ?_⟩
  rcases h.2 with q | ⟨g, cap, cur, rfl, hg, hh, rest⟩
  · exact Or.inl q
  · refine Or.inr ⟨g, cap, cur, rfl, hg, ?_, rest⟩
    have hlt : g < w.heap.size := by
      rcases Nat.lt_or_ge g w.heap.size with x | x
      · exact x
      · rw [Array.getElem?_eq_none x] at hh; cases hh
    rw [K.block g hlt (by omega)]
    exact hh
theorem unpackVol_is (q : Int) (w : World) (hq : 0 ≤ q ∧ q ≤ 65535) : Calls Try.prog 187 #[.int .i64 q] w fun e w' => e = .returned (.agg #[.int .i64 (q / 256), .int .i64 (q % 256), .int .i64 (-1)]) ∧ Below w.heap.size w w' := by
  have t1 : q.tdiv 256 = q / 256 := Int.tdiv_eq_ediv_of_nonneg (by omega)
  have t2 : q.tmod 256 = q % 256 := Int.tmod_eq_emod_of_nonneg (by omega)
  have u1 : IntKind.i64.wrap (q / 256) = q / 256 := wrapI_same _ (by omega)
  have u2 : IntKind.i64.wrap (q % 256) = q % 256 := wrapI_same _ (by omega)
  clear hq
  go_enter Try.func187, Try.ntmps187
  go_wp2
  refine bodyPost_ret (v := .agg #[.int .i64 (q / 256), .int .i64 (q % 256), .int .i64 (-1)]) (by simp [results, Try.results187, go_sem]) rfl ⟨rfl, ?_⟩
  exact (Below.refl _ _).alloc (Nat.le_refl _) _
theorem unpackStep_is (q z : Int) (w : World) (hq : 0 ≤ q ∧ q ≤ 65535) : Calls Try.prog 188 #[.int .i64 q, .int .i64 z] w fun e w' => e = .returned (.agg #[.bool (q % 2 == 1), .int .i64 (q / 512), .int .i64 (q / 2 % 256), .int .i64 z]) ∧ Below w.heap.size w w' := by
  have t1 : q.tmod 2 = q % 2 := Int.tmod_eq_emod_of_nonneg (by omega)
  have t3 : q.tdiv 2 = q / 2 := Int.tdiv_eq_ediv_of_nonneg (by omega)
  have t2 : (q / 2).tdiv 256 = q / 512 := by rw [Int.tdiv_eq_ediv_of_nonneg (by omega)]; omega
  have t4 : (q / 2).tmod 256 = q / 2 % 256 := Int.tmod_eq_emod_of_nonneg (by omega)
  have u1 : IntKind.i64.wrap (q % 2) = q % 2 := wrapI_same _ (by omega)
  have u2 : IntKind.i64.wrap (q / 512) = q / 512 := wrapI_same _ (by omega)
  have u3 : IntKind.i64.wrap (q / 2) = q / 2 := wrapI_same _ (by omega)
  have u4 : IntKind.i64.wrap (q / 2 % 256) = q / 2 % 256 := wrapI_same _ (by omega)
  clear hq
  go_enter Try.func188, Try.ntmps188
  go_wp2
  refine bodyPost_ret (v := .agg #[.bool (q % 2 == 1), .int .i64 (q / 512), .int .i64 (q / 2 % 256), .int .i64 z]) (by simp [results, Try.results188, go_sem]) rfl ⟨rfl, ?_⟩
  exact (Below.refl _ _).alloc (Nat.le_refl _) _

end Go.Proofs.Ytcbfmjanjciodaa

/- Chapter 7: a difference read from words, by the program. -/
namespace Go.Proofs.Ytcbfmjanjciodaa
open Go.RowKit

theorem RowAt.all {w : World} {own : Bool} {lo hi size : Nat} {ao : Option Addr} {n cap : Nat} {cs : List Value} (h : RowAt w own lo hi size ao n cap cs) : RowAt w own 0 w.heap.size size ao n cap cs := ⟨h.len, h.le, fun hn => by
  obtain ⟨b, off, e, _, _, h3, r⟩ := h.cells hn
  exact ⟨b, off, e, Nat.zero_le _, h3, h3, r⟩⟩
theorem ButS.cell {S : Nat → Prop} {w a : World} (h : ButS S w a) {b k : Nat} {v : Value} (hb : b < w.heap.size) (hs : ¬ S b) (c : w.cell? ⟨b, k, none⟩ = some v) : a.cell? ⟨b, k, none⟩ = some v := (World.cell?_of_block (w := w) (w' := a) (a := ⟨b, k, none⟩) (h.block b hb hs)).trans c
theorem ButS.fr {S : Nat → Prop} {w a : World} (h : ButS S w a) {b k : Nat} (hb : b < w.heap.size) (hs : ¬ S b) (c : w.frozen? ⟨b, k, none⟩ = false) : a.frozen? ⟨b, k, none⟩ = false := (World.frozen?_of_block (w := w) (w' := a) (a := ⟨b, k, none⟩) (h.block b hb hs)).trans c
set_option maxRecDepth 20000 in
set_option maxHeartbeats 4000000 in
theorem readDelta_is {o : Bool} {l u : Nat} (b off n c : Nat) (ws : List Int) (w : World) (h : RowAt w o l u 1 (some ⟨b, off, none⟩) n c (ints ws)) (hn : n ≤ 300) (hW : allW ws = true) : Calls Try.prog 127 #[.slice (some ⟨b, off, none⟩) n c] w fun e w' => DeTwo w w' e (wd ws 0) (wd ws 1) (rdN ws 6) (rdM ws (rdN ws 6) 120) (rdV ws (rdN ws 6)) (rdS ws (rdN ws 6) (rdM ws (rdN ws 6) 120)) := by
  have hl := h.nInts
  have HW : Hid _ := hW
  clear hW
  obtain ⟨x0, hx0⟩ : ∃ x, wd ws 0 = x := ⟨_, rfl⟩
  obtain ⟨x1, hx1⟩ : ∃ x, wd ws 1 = x := ⟨_, rfl⟩
  obtain ⟨x2, hx2⟩ : ∃ x, wd ws 2 = x := ⟨_, rfl⟩
  have hw2 := wd_word HW.out 2
  obtain ⟨N, hN⟩ : ∃ N, rdN ws 6 = N := ⟨_, rfl⟩
  have hN2 : (N : Int) = min x2 6 := by rw [← hN]; unfold rdN; rw [hx2] at hw2 ⊢; omega
  have hN3 : N ≤ 6 := by rw [← hN]; unfold rdN; omega
  have X0 : Hid _ := hx0
  have X1 : Hid _ := hx1
  have X2 : Hid _ := hx2
  rw [hx0, hx1, hN]
  have HN : Hid _ := hN
  have HN2 : Hid _ := hN2
  clear hx0 hx1 hx2 hw2 hN hN2
  obtain ⟨x3, hx3⟩ : ∃ x, wd ws (3 + N) = x := ⟨_, rfl⟩
  have hw3 := wd_word HW.out (3 + N)
  obtain ⟨M, hM⟩ : ∃ M, rdM ws N 120 = M := ⟨_, rfl⟩
  have hM2 : (M : Int) = min x3 120 := by rw [← hM]; unfold rdM; rw [hx3] at hw3 ⊢; omega
  have hM3 : M ≤ 120 := by rw [← hM]; unfold rdM; omega
  have X3 : Hid _ := hx3
  rw [hM]
  have HM2 : Hid _ := hM2
  clear hx3 hw3 hM hM2
  go_enter Try.func127, Try.ntmps127
  go_wp2_with (first | ((with_reducible refine box_new 228 #[.slice (some ⟨b, off, none⟩) n c] rfl ?_); intro b1 W1 N1; have O1 : Hid (b0 < b1) := Nat.lt_of_lt_of_le H0.out N1.ge; replace c0_0 := cell_later N1.below c0_0; replace c0_1 := cell_later N1.below c0_1; replace c0_2 := cell_later N1.below c0_2; replace c0_3 := cell_later N1.below c0_3; replace y0_0 := frozen_later N1.below H0.out y0_0; replace y0_1 := frozen_later N1.below H0.out y0_1; replace y0_2 := frozen_later N1.below H0.out y0_2; replace y0_3 := frozen_later N1.below H0.out y0_3; replace H0 : Hid (b0 < W1.heap.size) := Nat.lt_of_lt_of_le H0.out N1.below.size; replace B := below_next B N1.below; have H1 : Hid (b1 < W1.heap.size) := N1.lt; have c1_0 : W1.cell? ⟨b1, 0, none⟩ = some (.slice (some ⟨b, off, none⟩) n c) := N1.cell 0 _ rfl; have y1_0 : W1.frozen? ⟨b1, 0, none⟩ = false := N1.froz 0; clear N1) | (have g1 := H1.out; clear g1; (with_reducible refine alloc_new 78 #[.int .i64 0, .int .i64 0, .slice none 0 0, .slice none 0 0] (fun _ => by kernel_rfl) ?_); intro b2 W2 N2; have O2 : Hid (b1 < b2) := Nat.lt_of_lt_of_le H1.out N2.ge; replace c0_0 := cell_later N2.below c0_0; replace c0_1 := cell_later N2.below c0_1; replace c0_2 := cell_later N2.below c0_2; replace c0_3 := cell_later N2.below c0_3; replace y0_0 := frozen_later N2.below H0.out y0_0; replace y0_1 := frozen_later N2.below H0.out y0_1; replace y0_2 := frozen_later N2.below H0.out y0_2; replace y0_3 := frozen_later N2.below H0.out y0_3; replace H0 : Hid (b0 < W2.heap.size) := Nat.lt_of_lt_of_le H0.out N2.below.size; replace c1_0 := cell_later N2.below c1_0; replace y1_0 := frozen_later N2.below H1.out y1_0; replace H1 : Hid (b1 < W2.heap.size) := Nat.lt_of_lt_of_le H1.out N2.below.size; replace B := below_next B N2.below; have H2 : Hid (b2 < W2.heap.size) := N2.lt; have c2_0 : W2.cell? ⟨b2, 0, none⟩ = some (.int .i64 0) := N2.cell 0 _ rfl; have c2_1 : W2.cell? ⟨b2, 1, none⟩ = some (.int .i64 0) := N2.cell 1 _ rfl; have c2_2 : W2.cell? ⟨b2, 2, none⟩ = some (.slice none 0 0) := N2.cell 2 _ rfl; have c2_3 : W2.cell? ⟨b2, 3, none⟩ = some (.slice none 0 0) := N2.cell 3 _ rfl; have y2_0 : W2.frozen? ⟨b2, 0, none⟩ = false := N2.froz 0; have y2_1 : W2.frozen? ⟨b2, 1, none⟩ = false := N2.froz 1; have y2_2 : W2.frozen? ⟨b2, 2, none⟩ = false := N2.froz 2; have y2_3 : W2.frozen? ⟨b2, 3, none⟩ = false := N2.froz 3; clear N2) | ((with_reducible refine alloc_new 78 #[.int .i64 0, .int .i64 0, .slice none 0 0, .slice none 0 0] (fun _ => by kernel_rfl) ?_); intro b0 W0 N0; have O0 : Hid (w.heap.size ≤ b0) := N0.ge; have B := N0.below; have H0 : Hid (b0 < W0.heap.size) := N0.lt; have c0_0 : W0.cell? ⟨b0, 0, none⟩ = some (.int .i64 0) := N0.cell 0 _ rfl; have c0_1 : W0.cell? ⟨b0, 1, none⟩ = some (.int .i64 0) := N0.cell 1 _ rfl; have c0_2 : W0.cell? ⟨b0, 2, none⟩ = some (.slice none 0 0) := N0.cell 2 _ rfl; have c0_3 : W0.cell? ⟨b0, 3, none⟩ = some (.slice none 0 0) := N0.cell 3 _ rfl; have y0_0 : W0.frozen? ⟨b0, 0, none⟩ = false := N0.froz 0; have y0_1 : W0.frozen? ⟨b0, 1, none⟩ = false := N0.froz 1; have y0_2 : W0.frozen? ⟨b0, 2, none⟩ = false := N0.froz 2; have y0_3 : W0.frozen? ⟨b0, 3, none⟩ = false := N0.froz 3; clear N0) | fail)
  have RD : ReadAt W2 b1 o 0 w.heap.size ws := ⟨H1.out, y1_0, ⟨_, _, _, c1_0, (RowAt.all h).below B⟩, Nat.le_trans O0.out (Nat.le_of_lt O1.out), by omega⟩
  have D0 : Hid (w.heap.size ≤ b0) := O0.out
  have D1 : Hid (b0 < b1) := O1.out
  have D2 : Hid (b1 < b2) := O2.out
  have D3 : Hid (b2 < W2.heap.size) := H2.out
  have BW : Below w.heap.size w W2 := B
  have hwd : Hid (∀ i, (ws.drop i).getD 0 0 = wd ws i) := fun i => by unfold wd; rw [List.getD_eq_getElem?_getD, List.getElem?_drop, List.getD_eq_getElem?_getD]; rfl
  have hdr : Hid (∀ i, (ws.drop i).drop 1 = ws.drop (i + 1)) := fun i => by rw [List.drop_drop]
  refine (next_is b1 ws W2 RD x0 X0.out (ws.drop 1) rfl).mono ?_
  rintro e w1 ⟨rfl, RD1, K1⟩
  have N12 : Hid (b2 ≠ b1) := (Nat.ne_of_gt D2.out)
  have p0 := cell_of_but K1 c2_0 N12.out
  have q0 := frozen_of_but K1 D3.out y2_0 N12.out
  have p1 := cell_of_but K1 c2_1 N12.out
  have q1 := frozen_of_but K1 D3.out y2_1 N12.out
  have p2 := cell_of_but K1 c2_2 N12.out
  have q2 := frozen_of_but K1 D3.out y2_2 N12.out
  have p3 := cell_of_but K1 c2_3 N12.out
  have q3 := frozen_of_but K1 D3.out y2_3 N12.out
  have U1 : ButS (fun k => k = b1 ∨ k = b2) W2 w1 := (ButS.refl _ _).but K1 (Or.inl rfl)
  have HB1 : Hid (b2 < w1.heap.size) := Nat.lt_of_lt_of_le D3.out K1.size
  clear c2_0 c2_1 c2_2 c2_3 y2_0 y2_1 y2_2 y2_3 RD K1 c1_0 y1_0
  go_wp2_with fail
  have S0 := setC_mk (v := .int .i64 x0) p0 q0
  have KX0 : But b2 w1 (w1.setCell ⟨b2, 0, none⟩ (.int .i64 x0)) := (But.refl _ _).set _
  obtain ⟨Y0, hY0⟩ : ∃ X, X = w1.setCell ⟨b2, 0, none⟩ (.int .i64 x0) := ⟨_, rfl⟩
  rw [← hY0] at S0 KX0 ⊢
  clear hY0
  replace p0 := S0.cell
  replace q0 := S0.fr q0
  replace p1 := S0.oth p1 (Or.inr (by decide))
  replace q1 := S0.fr q1
  replace p2 := S0.oth p2 (Or.inr (by decide))
  replace q2 := S0.fr q2
  replace p3 := S0.oth p3 (Or.inr (by decide))
  replace q3 := S0.fr q3
  replace RD1 := RD1.but KX0 D2.out
  replace U1 := U1.but KX0 (Or.inr rfl)
  replace HB1 : Hid (b2 < Y0.heap.size) := Nat.lt_of_lt_of_le HB1.out KX0.size
  clear S0 KX0
  refine (next_is b1 (ws.drop 1) Y0 RD1 x1 ((hwd.out 1).trans X1.out) (ws.drop 2) (hdr.out 1)).mono ?_
  clear RD1
  rintro e w2 ⟨rfl, RD1, K1⟩
  replace p0 := cell_of_but K1 p0 N12.out
  replace q0 := frozen_of_but K1 HB1.out q0 N12.out
  replace p1 := cell_of_but K1 p1 N12.out
  replace q1 := frozen_of_but K1 HB1.out q1 N12.out
  replace p2 := cell_of_but K1 p2 N12.out
  replace q2 := frozen_of_but K1 HB1.out q2 N12.out
  replace p3 := cell_of_but K1 p3 N12.out
  replace q3 := frozen_of_but K1 HB1.out q3 N12.out
  replace U1 := U1.but K1 (Or.inl rfl)
  replace HB1 : Hid (b2 < w2.heap.size) := Nat.lt_of_lt_of_le HB1.out K1.size
  clear K1
  go_wp2_with fail
  have S1 := setC_mk (v := .int .i64 x1) p1 q1
  have KX1 : But b2 w2 (w2.setCell ⟨b2, 1, none⟩ (.int .i64 x1)) := (But.refl _ _).set _
  obtain ⟨Y1, hY1⟩ : ∃ X, X = w2.setCell ⟨b2, 1, none⟩ (.int .i64 x1) := ⟨_, rfl⟩
  rw [← hY1] at S1 KX1 ⊢
  clear hY1
  replace p0 := S1.oth p0 (Or.inr (by decide))
  replace q0 := S1.fr q0
  replace p1 := S1.cell
  replace q1 := S1.fr q1
  replace p2 := S1.oth p2 (Or.inr (by decide))
  replace q2 := S1.fr q2
  replace p3 := S1.oth p3 (Or.inr (by decide))
  replace q3 := S1.fr q3
  replace RD1 := RD1.but KX1 D2.out
  replace U1 := U1.but KX1 (Or.inr rfl)
  replace HB1 : Hid (b2 < Y1.heap.size) := Nat.lt_of_lt_of_le HB1.out KX1.size
  clear S1 KX1
  refine (next_is b1 (ws.drop 2) Y1 RD1 x2 ((hwd.out 2).trans X2.out) (ws.drop 3) (hdr.out 2)).mono ?_
  clear RD1
  rintro e w3 ⟨rfl, RD1, K1⟩
  replace p0 := cell_of_but K1 p0 N12.out
  replace q0 := frozen_of_but K1 HB1.out q0 N12.out
  replace p1 := cell_of_but K1 p1 N12.out
  replace q1 := frozen_of_but K1 HB1.out q1 N12.out
  replace p2 := cell_of_but K1 p2 N12.out
  replace q2 := frozen_of_but K1 HB1.out q2 N12.out
  replace p3 := cell_of_but K1 p3 N12.out
  replace q3 := frozen_of_but K1 HB1.out q3 N12.out
  replace U1 := U1.but K1 (Or.inl rfl)
  replace HB1 : Hid (b2 < w3.heap.size) := Nat.lt_of_lt_of_le HB1.out K1.size
  clear K1
  have DL : Hid (b2 < w3.heap.size) := HB1.out
  have B3 : Below w.heap.size w w3 := BW.trans (U1.below (fun k hk => by have q0 := D0.out; have q1 := D1.out; have q2 := D2.out; rcases hk with rfl | rfl <;> omega) BW.size)
  have NS0 : Hid (¬ (b0 = b1 ∨ b0 = b2)) := fun e => by have q1 := D1.out; have q2 := D2.out; rcases e with e | e <;> omega
  have DB0 : Hid (b0 < w3.heap.size) := Nat.lt_trans (Nat.lt_trans D1.out D2.out) DL.out
  have DH : Hid (b0 < W2.heap.size) := Nat.lt_trans (Nat.lt_trans D1.out D2.out) D3.out
  replace c0_0 := U1.cell DH.out NS0.out c0_0
  replace y0_0 := U1.fr DH.out NS0.out y0_0
  replace c0_1 := U1.cell DH.out NS0.out c0_1
  replace y0_1 := U1.fr DH.out NS0.out y0_1
  replace c0_2 := U1.cell DH.out NS0.out c0_2
  replace y0_2 := U1.fr DH.out NS0.out y0_2
  replace c0_3 := U1.cell DH.out NS0.out c0_3
  replace y0_3 := U1.fr DH.out NS0.out y0_3
  clear U1
  have DW : Hid (w.heap.size ≤ w3.heap.size) := B3.size
  go_wp2_with (first | (refine wp_min rfl _ _ rfl x2 6 (N : Int) rfl rfl HN2.out ?_))
  go_loopw [18] (fun i wr => ∃ k : Nat, k ≤ N ∧ i = .int .i64 (k : Int) ∧ ReadAt wr b1 o 0 w.heap.size (ws.drop (3 + k)) ∧ ButS (fun k => k = b1 ∨ k = b2) w3 wr ∧ (∃ v, wr.cell? ⟨b2, 2, none⟩ = some v ∧ wr.ownsRow w3.heap.size 149 3 v k (trips (rdV ws k))) ∧ wr.cell? ⟨b2, 0, none⟩ = some (.int .i64 x0) ∧ wr.cell? ⟨b2, 1, none⟩ = some (.int .i64 x1) ∧ wr.cell? ⟨b2, 3, none⟩ = some (.slice none 0 0) ∧ wr.frozen? ⟨b2, 2, none⟩ = false ∧ wr.frozen? ⟨b2, 3, none⟩ = false) (fun i _ => N - (intOf i).toNat)
  case atStart => exact ⟨0, Nat.zero_le _, rfl, RD1, ButS.refl _ _, ⟨_, p2, rfl, Or.inl ⟨rfl, rfl⟩⟩, p0, p1, p3, q2, q3⟩
  case round =>
    clear RD1 p0 p1 p2 p3 q0 q1 q2 q3
    obtain ⟨k, hk, rfl, RD, U, ⟨v, p2, hown⟩, p0, p1, p3, q2, q3⟩ := hrel
    have HSZ : Hid _ := U.size
    by_cases hlt : k < N
    · have hlk : (k : Int) < (N : Int) := by omega
      have hqw := wd_word HW.out (3 + k)
      obtain ⟨q, hqq⟩ : ∃ q, wd ws (3 + k) = q := ⟨_, rfl⟩
      rw [hqq] at hqw
      have HQ : Hid ((ws.drop (3 + k)).getD 0 0 = q) := (hwd.out _).trans hqq
      have HQW : Hid _ := hqw
      have HDR : Hid ((ws.drop (3 + k)).drop 1 = ws.drop (3 + k + 1)) := hdr.out _
      have HT : Hid (rdV ws (k + 1) = rdV ws k ++ [(q / 256, q % 256, -1)]) := by show _ = _; rw [rdV_snoc, hqq]; rfl
      clear hqq hqw
      have D : Below wr.heap.size wr wr.drew := (Below.refl _ _).drew
      replace RD := RD.below D
      replace U := U.next (D.mono HSZ.out)
      replace hown := owns_below hown D
      replace p0 := cell_later D p0
      replace p1 := cell_later D p1
      replace p2 := cell_later D p2
      replace p3 := cell_later D p3
      replace q2 := frozen_later D (Nat.lt_of_lt_of_le DL.out HSZ.out) q2
      replace q3 := frozen_later D (Nat.lt_of_lt_of_le DL.out HSZ.out) q3
      clear D
      have HS4 : Hid (w3.heap.size ≤ wr.drew.heap.size) := HSZ.out
      go_wp2_with fail
      go_region_law (first | (refine step_append_run rfl _ _ _ _ rfl _ _ rfl rfl _ _ hr7 ?_) | (go_simp; go_at_call 186; refine (next_is b1 (ws.drop (3 + k)) _ RD q HQ.out (ws.drop (3 + k + 1)) HDR.out).mono ?_; rintro e w5 ⟨rfl, RD5, K5⟩; have g0 := cell_of_but K5 p0 N12.out; have g1 := cell_of_but K5 p1 N12.out; have g2 := cell_of_but K5 p2 N12.out; have g3 := cell_of_but K5 p3 N12.out; have h2 := frozen_of_but K5 (Nat.lt_of_lt_of_le DL.out HS4.out) q2 N12.out; have h3 := frozen_of_but K5 (Nat.lt_of_lt_of_le DL.out HS4.out) q3 N12.out; have O5 := owns_of_but K5 hown (Nat.lt_trans D2.out DL.out); have U5 := U.but K5 (Or.inl rfl); have HS5 : Hid (w3.heap.size ≤ w5.heap.size) := Nat.le_trans HS4.out K5.size; clear K5) | (go_simp; go_at_call 187; refine (unpackVol_is q _ HQW.out).mono ?_; rintro e w6 ⟨rfl, B6⟩; have j0 := cell_later B6 g0; have j1 := cell_later B6 g1; have j2 := cell_later B6 g2; have j3 := cell_later B6 g3; have i2 := frozen_later B6 (Nat.lt_of_lt_of_le DL.out HS5.out) h2; have i3 := frozen_later B6 (Nat.lt_of_lt_of_le DL.out HS5.out) h3; have O6 := owns_below O5 B6; have U6 := U5.next (B6.mono HS5.out); have RD6 := RD5.below B6; have HS6 : Hid (w3.heap.size ≤ w6.heap.size) := Nat.le_trans HS5.out B6.size; obtain ⟨ao, cap, w7, hr7, O7, B7⟩ := appV_run O6 (q / 256) (q % 256) (-1) 30 (by omega) HS6.out; have ga : (w6.alloc (.cells #[.int .i64 (q / 256), .int .i64 (q % 256), .int .i64 (-1)] 149)).cell? ⟨b2, 2, none⟩ = some v := cell_later ((Below.refl _ _).alloc (Nat.le_refl _) _) j2; have G2 := (B7.cell (p := ⟨b2, 2, none⟩) DL.out).trans j2; have F2 := (B7.frozen (p := ⟨b2, 2, none⟩) DL.out).trans i2; clear B6))
      all_goals
        have SS := setC_mk (v := .slice ao (k + 1) cap) G2 F2
        have M0 := SS.oth ((B7.cell (p := ⟨b2, 0, none⟩) DL.out).trans j0) (Or.inr (by decide))
        have M1 := SS.oth ((B7.cell (p := ⟨b2, 1, none⟩) DL.out).trans j1) (Or.inr (by decide))
        have M3 := SS.oth ((B7.cell (p := ⟨b2, 3, none⟩) DL.out).trans j3) (Or.inr (by decide))
        have M2 := SS.cell
        have N2 := SS.fr F2
        have N3 := SS.fr ((B7.frozen (p := ⟨b2, 3, none⟩) DL.out).trans i3)
        have O8 : (w7.setCell ⟨b2, 2, none⟩ (.slice ao (k + 1) cap)).ownsRow w3.heap.size 149 3 (.slice ao (k + 1) cap) (k + 1) (trips (rdV ws (k + 1))) := by rw [HT.out]; exact owns_keptB O7 SS.kept (Nat.succ_le_of_lt DL.out)
        have U8 : ButS (fun k => k = b1 ∨ k = b2) w3 (w7.setCell ⟨b2, 2, none⟩ (.slice ao (k + 1) cap)) := (U6.next B7).but ((But.refl b2 _).set _) (Or.inr rfl)
        have R8 : ReadAt (w7.setCell ⟨b2, 2, none⟩ (.slice ao (k + 1) cap)) b1 o 0 w.heap.size (ws.drop (3 + (k + 1))) := (RD6.belowIn B7 (Nat.lt_trans D2.out DL.out)).but ((But.refl b2 _).set _) D2.out
        clear SS hr7 O7 B7 O6 O5 hown U U5 U6 RD RD5 RD6 p0 p1 p2 p3 q2 q3 g0 g1 g2 g3 h2 h3 j0 j1 j2 j3 i2 i3 ga G2 F2 HT
        go_wp2
        go_roundw
        case rel => exact ⟨k + 1, by omega, by go_num, R8, U8, ⟨_, M2, O8⟩, M0, M1, M3, N2, N3⟩
        case measure => simp [intOf]; omega
    · have hlk : ¬ (N : Int) < (N : Int) := by omega
      obtain rfl : N = k := by omega
      clear hk hlt
      obtain ⟨va, vc, rfl, RV⟩ := RowAt.of_owned hown
      clear hown
      go_wp2_with fail
      refine (next_is b1 (ws.drop (3 + N)) _ RD x3 ((hwd.out _).trans X3.out) (ws.drop (4 + N)) ((hdr.out _).trans (by rw [show 3 + N + 1 = 4 + N by omega]))).mono ?_
      clear RD
      rintro e w4 ⟨rfl, RD1, K1⟩
      have HB2 : Hid (b2 < wr.heap.size) := Nat.lt_of_lt_of_le DL.out HSZ.out
      replace p0 := cell_of_but K1 p0 N12.out
      replace p1 := cell_of_but K1 p1 N12.out
      replace p2 := cell_of_but K1 p2 N12.out
      replace p3 := cell_of_but K1 p3 N12.out
      replace q3 := frozen_of_but K1 HB2.out q3 N12.out
      replace U := U.but K1 (Or.inl rfl)
      replace RV := K1.row RV (Or.inr (Nat.lt_trans D2.out DL.out))
      have HWW : Hid (wr.heap.size ≤ w4.heap.size) := K1.size
      replace RV := RV.widen (Nat.le_refl _) HWW.out
      have z0 := U.cell DB0.out NS0.out c0_0
      have v0 := U.fr DB0.out NS0.out y0_0
      have z1 := U.cell DB0.out NS0.out c0_1
      have v1 := U.fr DB0.out NS0.out y0_1
      have z2 := U.cell DB0.out NS0.out c0_2
      have v2 := U.fr DB0.out NS0.out y0_2
      have z3 := U.cell DB0.out NS0.out c0_3
      have v3 := U.fr DB0.out NS0.out y0_3
      have HS4 : Hid (w3.heap.size ≤ w4.heap.size) := U.size
      have B4 : Below w.heap.size w w4 := B3.trans (U.below (fun k hk => by have q0 := D0.out; have q1 := D1.out; have q2 := D2.out; rcases hk with rfl | rfl <;> omega) B3.size)
      have DL4 : Hid (b2 < w4.heap.size) := Nat.lt_of_lt_of_le DL.out HS4.out
      have DB4 : Hid (b0 < w4.heap.size) := Nat.lt_of_lt_of_le DB0.out HS4.out
      have HN3 : Hid _ := hN3
      have RV4 : Hid _ := RV
      have Z4 : Hid _ := And.intro (And.intro (And.intro z0 v0) (And.intro z1 v1)) (And.intro (And.intro z2 v2) (And.intro z3 v3))
      clear U K1 HSZ HB2 HWW q2 c0_0 c0_1 c0_2 c0_3 y0_0 y0_1 y0_2 y0_3 hlk hN3 RV z0 z1 z2 z3 v0 v1 v2 v3
      go_wp2_with (first | (refine wp_min rfl _ _ rfl x3 120 (M : Int) rfl rfl HM2.out ?_))
      go_loopw [32] (fun i wr => ∃ k : Nat, k ≤ M ∧ i = .int .i64 (k : Int) ∧ ReadAt wr b1 o 0 w.heap.size (ws.drop (4 + N + 2 * k)) ∧ ButS (fun k => k = b1 ∨ k = b2) w4 wr ∧ (∃ v, wr.cell? ⟨b2, 3, none⟩ = some v ∧ wr.ownsRow w4.heap.size 141 4 v k (quads (rdS ws N k))) ∧ wr.cell? ⟨b2, 0, none⟩ = some (.int .i64 x0) ∧ wr.cell? ⟨b2, 1, none⟩ = some (.int .i64 x1) ∧ wr.cell? ⟨b2, 2, none⟩ = some (.slice va N vc) ∧ wr.frozen? ⟨b2, 3, none⟩ = false) (fun i _ => M - (intOf i).toNat)
      case atStart => exact ⟨0, Nat.zero_le _, rfl, RD1, ButS.refl _ _, ⟨_, p3, rfl, Or.inl ⟨rfl, rfl⟩⟩, p0, p1, p2, q3⟩
      case round =>
        clear RD1 p0 p1 p2 p3 q3
        rename_i wr0 _ _
        clear wr0
        obtain ⟨k, hk, rfl, RD, U, ⟨v, p3, hown⟩, p0, p1, p2, q3⟩ := hrel
        have HSZ : Hid _ := U.size
        by_cases hlt : k < M
        · have hlk : (k : Int) < (M : Int) := by omega
          have hqw := wd_word HW.out (4 + N + 2 * k)
          obtain ⟨q, hqq⟩ : ∃ q, wd ws (4 + N + 2 * k) = q := ⟨_, rfl⟩
          obtain ⟨z, hzz⟩ : ∃ q, wd ws (5 + N + 2 * k) = q := ⟨_, rfl⟩
          rw [hqq] at hqw
          have HQ : Hid ((ws.drop (4 + N + 2 * k)).getD 0 0 = q) := (hwd.out _).trans hqq
          have HZ : Hid ((ws.drop (5 + N + 2 * k)).getD 0 0 = z) := (hwd.out _).trans hzz
          have HQW : Hid _ := hqw
          have HDR : Hid ((ws.drop (4 + N + 2 * k)).drop 1 = ws.drop (5 + N + 2 * k)) := (hdr.out _).trans (by rw [show 4 + N + 2 * k + 1 = 5 + N + 2 * k by omega])
          have HDZ : Hid ((ws.drop (5 + N + 2 * k)).drop 1 = ws.drop (4 + N + 2 * (k + 1))) := (hdr.out _).trans (by rw [show 5 + N + 2 * k + 1 = 4 + N + 2 * (k + 1) by omega])
          have HT : Hid (rdS ws N (k + 1) = rdS ws N k ++ [(q % 2 == 1, q / 512, q / 2 % 256, z)]) := by show _ = _; rw [rdS_snoc, hqq, hzz]; rfl
          clear hqq hqw hzz
          go_wp2_with fail
          refine (next_is b1 (ws.drop (4 + N + 2 * k)) _ RD q HQ.out (ws.drop (5 + N + 2 * k)) HDR.out).mono ?_
          clear RD
          rintro e ws5 ⟨rfl, RD, K1⟩
          have HB5 : Hid (b2 < wr.heap.size) := Nat.lt_of_lt_of_le DL4.out HSZ.out
          replace p0 := cell_of_but K1 p0 N12.out
          replace p1 := cell_of_but K1 p1 N12.out
          replace p2 := cell_of_but K1 p2 N12.out
          replace p3 := cell_of_but K1 p3 N12.out
          replace q3 := frozen_of_but K1 HB5.out q3 N12.out
          replace hown := owns_of_but K1 hown (Nat.lt_trans D2.out DL4.out)
          replace U := U.but K1 (Or.inl rfl)
          replace HSZ : Hid (w4.heap.size ≤ ws5.heap.size) := U.size
          clear K1 HB5
          have D : Below ws5.heap.size ws5 ws5.drew := (Below.refl _ _).drew
          replace RD := RD.below D
          replace U := U.next (D.mono HSZ.out)
          replace hown := owns_below hown D
          replace p0 := cell_later D p0
          replace p1 := cell_later D p1
          replace p2 := cell_later D p2
          replace p3 := cell_later D p3
          replace q3 := frozen_later D (Nat.lt_of_lt_of_le DL4.out HSZ.out) q3
          clear D
          have HS5 : Hid (w4.heap.size ≤ ws5.drew.heap.size) := HSZ.out
          go_wp2_with fail
          go_region_law (first | (refine step_append_run rfl _ _ _ _ rfl _ _ rfl rfl _ _ hr7 ?_) | (go_simp; go_at_call 186; refine (next_is b1 (ws.drop (5 + N + 2 * k)) _ RD z HZ.out (ws.drop (4 + N + 2 * (k + 1))) HDZ.out).mono ?_; rintro e w5 ⟨rfl, RD5, K5⟩; have g0 := cell_of_but K5 p0 N12.out; have g1 := cell_of_but K5 p1 N12.out; have g2 := cell_of_but K5 p2 N12.out; have g3 := cell_of_but K5 p3 N12.out; have h3 := frozen_of_but K5 (Nat.lt_of_lt_of_le DL4.out HS5.out) q3 N12.out; have O5 := owns_of_but K5 hown (Nat.lt_trans D2.out DL4.out); have U5 := U.but K5 (Or.inl rfl); have HS6 : Hid (w4.heap.size ≤ w5.heap.size) := Nat.le_trans HS5.out K5.size; clear K5) | (go_simp; go_at_call 188; refine (unpackStep_is q z _ HQW.out).mono ?_; rintro e w6 ⟨rfl, B6⟩; have j0 := cell_later B6 g0; have j1 := cell_later B6 g1; have j2 := cell_later B6 g2; have j3 := cell_later B6 g3; have i3 := frozen_later B6 (Nat.lt_of_lt_of_le DL4.out HS6.out) h3; have O6 := owns_below O5 B6; have U6 := U5.next (B6.mono HS6.out); have RD6 := RD5.below B6; have HS7 : Hid (w4.heap.size ≤ w6.heap.size) := Nat.le_trans HS6.out B6.size; obtain ⟨ao, cap, w7, hr7, O7, B7⟩ := appS_run O6 (q % 2 == 1) (q / 512) (q / 2 % 256) z 76 (by omega) HS7.out; have ga : (w6.alloc (.cells #[.bool (q % 2 == 1), .int .i64 (q / 512), .int .i64 (q / 2 % 256), .int .i64 z] 141)).cell? ⟨b2, 3, none⟩ = some v := cell_later ((Below.refl _ _).alloc (Nat.le_refl _) _) j3; have G3 := (B7.cell (p := ⟨b2, 3, none⟩) DL4.out).trans j3; have F3 := (B7.frozen (p := ⟨b2, 3, none⟩) DL4.out).trans i3; clear B6))
          all_goals
            have SS := setC_mk (v := .slice ao (k + 1) cap) G3 F3
            have M0 := SS.oth ((B7.cell (p := ⟨b2, 0, none⟩) DL4.out).trans j0) (Or.inr (by decide))
            have M1 := SS.oth ((B7.cell (p := ⟨b2, 1, none⟩) DL4.out).trans j1) (Or.inr (by decide))
            have M2 := SS.oth ((B7.cell (p := ⟨b2, 2, none⟩) DL4.out).trans j2) (Or.inr (by decide))
            have M3 := SS.cell
            have N3 := SS.fr F3
            have O8 : (w7.setCell ⟨b2, 3, none⟩ (.slice ao (k + 1) cap)).ownsRow w4.heap.size 141 4 (.slice ao (k + 1) cap) (k + 1) (quads (rdS ws N (k + 1))) := by rw [HT.out]; exact owns_keptB O7 SS.kept (Nat.succ_le_of_lt DL4.out)
            have U8 : ButS (fun k => k = b1 ∨ k = b2) w4 (w7.setCell ⟨b2, 3, none⟩ (.slice ao (k + 1) cap)) := (U6.next B7).but ((But.refl b2 _).set _) (Or.inr rfl)
            have R8 : ReadAt (w7.setCell ⟨b2, 3, none⟩ (.slice ao (k + 1) cap)) b1 o 0 w.heap.size (ws.drop (4 + N + 2 * (k + 1))) := (RD6.belowIn B7 (Nat.lt_trans D2.out DL4.out)).but ((But.refl b2 _).set _) D2.out
            clear SS hr7 O7 B7 O6 O5 hown U U5 U6 RD RD5 RD6 p0 p1 p2 p3 q3 g0 g1 g2 g3 h3 j0 j1 j2 j3 i3 ga G3 F3 HT
            go_wp2
            go_roundw
            case rel => exact ⟨k + 1, by omega, by go_num, R8, U8, ⟨_, M3, O8⟩, M0, M1, M2, N3⟩
            case measure => simp [intOf]; omega
        · have hlk : ¬ (M : Int) < (M : Int) := by omega
          obtain rfl : M = k := by omega
          clear hk hlt
          obtain ⟨sa, sc, rfl, RS⟩ := RowAt.of_owned hown
          clear hown
          have zz := Z4.out
          have z0 := U.cell DB4.out NS0.out zz.1.1.1
          have v0 := U.fr DB4.out NS0.out zz.1.1.2
          have z1 := U.cell DB4.out NS0.out zz.1.2.1
          have v1 := U.fr DB4.out NS0.out zz.1.2.2
          have z2 := U.cell DB4.out NS0.out zz.2.1.1
          have v2 := U.fr DB4.out NS0.out zz.2.1.2
          have z3 := U.cell DB4.out NS0.out zz.2.2.1
          have v3 := U.fr DB4.out NS0.out zz.2.2.2
          have RVf := U.row RV4.out (fun k hk => by have q2 := D2.out; have q3 := DL.out; rcases hk with rfl | rfl <;> omega)
          have BF : Below w.heap.size w wr := B4.trans (U.below (fun k hk => by have q0 := D0.out; have q1 := D1.out; have q2 := D2.out; rcases hk with rfl | rfl <;> omega) B4.size)
          clear zz U RD q3 Z4 RV4
          go_wp2_with (first | ((with_reducible refine store_box 78 b0 [.int .i64 x0, .int .i64 x1, .slice va N vc, .slice sa M sc] (by simp) (there4 z0 z1 z2 z3 v0 v1 v2 v3) (by kernel_rfl) (by simp [Value.oneCell']) rfl rfl ?_); intro WE SE; have e0 := SE.cell 0 _ rfl; have e1 := SE.cell 1 _ rfl; have e2 := SE.cell 2 _ rfl; have e3 := SE.cell 3 _ rfl; clear z0 z1 z2 z3 v0 v1 v2 v3))
          refine bodyPost_ret (v := .agg #[.int .i64 x0, .int .i64 x1, .slice va N vc, .slice sa M sc]) (by simp [results, Try.results127, go_sem, e0, e1, e2, e3]) rfl ?_
          have KK := SE.kept
          have SZE := SE.size
          exact ⟨va, vc, sa, sc, w4.heap.size, rfl, (RVf.kept KK (Or.inr (Nat.succ_le_of_lt DB0.out))).widen DW.out (Nat.le_refl _), (RS.kept KK (Or.inr (Nat.succ_le_of_lt DB4.out))).widen (Nat.le_refl _) (Nat.le_of_eq SZE.symm), Nat.le_trans DW.out HS4.out, by rw [SZE]; exact HSZ.out, BF.trans (KK.below _ D0.out BF.size)⟩

end Go.Proofs.Ytcbfmjanjciodaa

/- Chapter 7: a difference read from words, by the program: its answer. -/
namespace Go.Proofs.Ytcbfmjanjciodaa
open Go.RowKit

set_option maxRecDepth 20000 in
set_option maxHeartbeats 4000000 in
theorem implUn_is {o : Bool} {l u : Nat} (b off n c : Nat) (ws : List Int) (w : World) (h : RowAt w o l u 1 (some ⟨b, off, none⟩) n c (ints ws)) (hn : n ≤ 2097152) (cd fr tt : Int) (vs : List Vo) (ss : List St) (hc : unC ws = cd) (hf : unFr ws = fr) (hg : unTo ws = tt) (hv : unVs ws = vs) (hs : unSs ws = ss) : Calls Try.prog 57 #[.slice (some ⟨b, off, none⟩) n c] w fun e w' => DeltaR w w' e cd fr tt vs ss := by
  have hl := h.nInts
  have HC : Hid _ := hc
  have HF : Hid _ := hf
  have HG : Hid _ := hg
  have HV : Hid _ := hv
  have HS : Hid _ := hs
  clear hc hf hg hv hs
  by_cases h3 : 300 < n
  · have h3i : (300 : Int) < (n : Int) := by omega
    have HCODE : cd = 2 := by rw [← HC.out]; exact if_pos (by omega)
    have e0 : cd = 2 := HCODE
    have e1 : fr = 0 := by rw [← HF.out]; unfold unFr; rw [HC.out, e0]; rfl
    have e2 : tt = 0 := by rw [← HG.out]; unfold unTo; rw [HC.out, e0]; rfl
    have e3 : vs = [] := by rw [← HV.out]; unfold unVs; rw [HC.out, e0]; rfl
    have e4 : ss = [] := by rw [← HS.out]; unfold unSs; rw [HC.out, e0]; rfl
    subst e0 e1 e2 e3 e4
    go_enter Try.func57, Try.ntmps57
    go_wp2_with (first | ((with_reducible refine alloc_new 83 #[.int .i64 0, .int .i64 0, .int .i64 0, .slice none 0 0, .slice none 0 0] (fun _ => by kernel_rfl) ?_); intro b0 W0 N0; have O0 : Hid (w.heap.size ≤ b0) := N0.ge; have B := N0.below; have H0 : Hid (b0 < W0.heap.size) := N0.lt; have c0_0 : W0.cell? ⟨b0, 0, none⟩ = some (.int .i64 0) := N0.cell 0 _ rfl; have c0_1 : W0.cell? ⟨b0, 1, none⟩ = some (.int .i64 0) := N0.cell 1 _ rfl; have c0_2 : W0.cell? ⟨b0, 2, none⟩ = some (.int .i64 0) := N0.cell 2 _ rfl; have c0_3 : W0.cell? ⟨b0, 3, none⟩ = some (.slice none 0 0) := N0.cell 3 _ rfl; have c0_4 : W0.cell? ⟨b0, 4, none⟩ = some (.slice none 0 0) := N0.cell 4 _ rfl; have y0_0 : W0.frozen? ⟨b0, 0, none⟩ = false := N0.froz 0; have y0_1 : W0.frozen? ⟨b0, 1, none⟩ = false := N0.froz 1; have y0_2 : W0.frozen? ⟨b0, 2, none⟩ = false := N0.froz 2; have y0_3 : W0.frozen? ⟨b0, 3, none⟩ = false := N0.froz 3; have y0_4 : W0.frozen? ⟨b0, 4, none⟩ = false := N0.froz 4; clear N0) | fail)
    go_wp2
    refine bodyPost_ret (v := .agg #[.int .i64 2, .int .i64 0, .int .i64 0, .slice none 0 0, .slice none 0 0]) (by simp [results, Try.results57, go_sem, c0_0, c0_1, c0_2, c0_3, c0_4]) rfl ?_
    have KZ : Kept b0 (b0 + 1) W0 (((((W0.setCell ⟨b0, 0, none⟩ (.int .i64 2)).setCell ⟨b0, 1, none⟩ (.int .i64 0)).setCell ⟨b0, 2, none⟩ (.int .i64 0)).setCell ⟨b0, 3, none⟩ (.slice none 0 0)).setCell ⟨b0, 4, none⟩ (.slice none 0 0)) := by refine Kept.setCell (Kept.setCell (Kept.setCell (Kept.setCell (Kept.setCell (Kept.refl _ _ _) ?_ ?_ _) ?_ ?_ _) ?_ ?_ _) ?_ ?_ _) ?_ ?_ _ <;> simp
    have s := KZ.size
    exact ⟨_, _, _, _, _, _, _, rfl, RowAt.nil _ _ _ _ _, RowAt.nil _ _ _ _ _, Nat.le_refl _, Nat.le_trans B.size s, B.trans (KZ.below _ O0.out B.size)⟩
  have h3i : ¬ (300 : Int) < (n : Int) := by omega
  go_enter Try.func57, Try.ntmps57
  go_wp2_with (first | ((with_reducible refine alloc_new 83 #[.int .i64 0, .int .i64 0, .int .i64 0, .slice none 0 0, .slice none 0 0] (fun _ => by kernel_rfl) ?_); intro b0 W0 N0; have O0 : Hid (w.heap.size ≤ b0) := N0.ge; have B := N0.below; have H0 : Hid (b0 < W0.heap.size) := N0.lt; have c0_0 : W0.cell? ⟨b0, 0, none⟩ = some (.int .i64 0) := N0.cell 0 _ rfl; have c0_1 : W0.cell? ⟨b0, 1, none⟩ = some (.int .i64 0) := N0.cell 1 _ rfl; have c0_2 : W0.cell? ⟨b0, 2, none⟩ = some (.int .i64 0) := N0.cell 2 _ rfl; have c0_3 : W0.cell? ⟨b0, 3, none⟩ = some (.slice none 0 0) := N0.cell 3 _ rfl; have c0_4 : W0.cell? ⟨b0, 4, none⟩ = some (.slice none 0 0) := N0.cell 4 _ rfl; have y0_0 : W0.frozen? ⟨b0, 0, none⟩ = false := N0.froz 0; have y0_1 : W0.frozen? ⟨b0, 1, none⟩ = false := N0.froz 1; have y0_2 : W0.frozen? ⟨b0, 2, none⟩ = false := N0.froz 2; have y0_3 : W0.frozen? ⟨b0, 3, none⟩ = false := N0.froz 3; have y0_4 : W0.frozen? ⟨b0, 4, none⟩ = false := N0.froz 4; clear N0))
  go_loopw [13] (fun i wr => ∃ k : Nat, k ≤ n ∧ i = .int .i64 k ∧ (∀ j, j < k → wordB (ws.getD j 0) = true) ∧ wr = W0) (fun i _ => n - (intOf i).toNat)
  case atStart => exact ⟨0, Nat.zero_le _, rfl, fun j hj => absurd hj (Nat.not_lt_zero _), rfl⟩
  case round =>
    obtain ⟨k, hk, rfl, ha, rfl⟩ := hrel
    have HA : Hid _ := ha
    clear ha
    by_cases hlt : k < n
    · obtain ⟨_, _, e', _, _, _, v0, _⟩ := h.int hlt
      cases e'
      replace v0 := cell_later B v0
      have hlk : (k : Int) < (n : Int) := by omega
      obtain ⟨x, hx⟩ : ∃ x, ws.getD k 0 = x := ⟨_, rfl⟩
      obtain ⟨d, hd⟩ : ∃ d, wordB x = d := ⟨_, rfl⟩
      have HX : Hid _ := hx
      have HD : Hid _ := hd
      rw [hx] at v0
      clear hx hd
      go_wp2_with fail
      refine (isWord_is x _ d HD.out).mono ?_
      rintro e W0' ⟨rfl, rfl⟩
      cases d with
      | false =>
        have HCODE : cd = 3 := by rw [← HC.out]; unfold unC; rw [if_neg (by omega), allW_not (j := k) (by omega) (by rw [HX.out]; exact HD.out)]; rfl
        have e0 : cd = 3 := HCODE
        have e1 : fr = 0 := by rw [← HF.out]; unfold unFr; rw [HC.out, e0]; rfl
        have e2 : tt = 0 := by rw [← HG.out]; unfold unTo; rw [HC.out, e0]; rfl
        have e3 : vs = [] := by rw [← HV.out]; unfold unVs; rw [HC.out, e0]; rfl
        have e4 : ss = [] := by rw [← HS.out]; unfold unSs; rw [HC.out, e0]; rfl
        subst e0 e1 e2 e3 e4
        go_wp2
        refine bodyPost_ret (v := .agg #[.int .i64 3, .int .i64 0, .int .i64 0, .slice none 0 0, .slice none 0 0]) (by simp [results, Try.results57, go_sem, c0_0, c0_1, c0_2, c0_3, c0_4]) rfl ?_
        have KZ : Kept b0 (b0 + 1) W0' (((((W0'.setCell ⟨b0, 0, none⟩ (.int .i64 3)).setCell ⟨b0, 1, none⟩ (.int .i64 0)).setCell ⟨b0, 2, none⟩ (.int .i64 0)).setCell ⟨b0, 3, none⟩ (.slice none 0 0)).setCell ⟨b0, 4, none⟩ (.slice none 0 0)) := by refine Kept.setCell (Kept.setCell (Kept.setCell (Kept.setCell (Kept.setCell (Kept.refl _ _ _) ?_ ?_ _) ?_ ?_ _) ?_ ?_ _) ?_ ?_ _) ?_ ?_ _ <;> simp
        have s := KZ.size
        exact ⟨_, _, _, _, _, _, _, rfl, RowAt.nil _ _ _ _ _, RowAt.nil _ _ _ _ _, Nat.le_refl _, Nat.le_trans B.size s, B.trans (KZ.below _ O0.out B.size)⟩
      | true =>
        go_wp2
        go_roundw
        case rel => exact ⟨k + 1, by omega, by go_num, fun j hj => by
          by_cases e : j = k
          · rw [e, HX.out]; exact HD.out
          · exact HA.out j (by omega), by first | rfl | trivial⟩
        case measure => simp [intOf]; omega
    · obtain rfl : k = n := by omega
      have HW : Hid (allW ws = true) := allW_of fun j hj => HA.out j (by omega)
      clear HA
      have RDL := readDelta_is b off k c ws _ (h.below B) (by omega) HW.out
      obtain ⟨x0, hx0⟩ : ∃ x, wd ws 0 = x := ⟨_, rfl⟩
      obtain ⟨x1, hx1⟩ : ∃ x, wd ws 1 = x := ⟨_, rfl⟩
      obtain ⟨N, hN⟩ : ∃ N, rdN ws 6 = N := ⟨_, rfl⟩
      obtain ⟨M, hM⟩ : ∃ M, rdM ws N 120 = M := ⟨_, rfl⟩
      rw [hx0, hx1, hN, hM] at RDL
      have hN3 : N ≤ 6 := by rw [← hN]; unfold rdN; omega
      have hM3 : M ≤ 120 := by rw [← hM]; unfold rdM; omega
      have X0 : Hid _ := hx0
      have X1 : Hid _ := hx1
      have HN : Hid _ := hN
      have HM : Hid _ := hM
      obtain ⟨df, hdf⟩ : ∃ d, deFault x0 x1 (rdV ws N) (rdS ws N M) = d := ⟨_, rfl⟩
      obtain ⟨pl, hpl⟩ : ∃ d, packL x0 x1 (rdV ws N) (rdS ws N M) = d := ⟨_, rfl⟩
      have HDF : Hid _ := hdf
      have HPL : Hid _ := hpl
      have HOD : Hid (okD ws 6 120 = (decide (df = 0) && decide (packW x0 x1 (rdV ws N) (rdS ws N M) = ws))) := by show _ = _; unfold okD; rw [hN, hM, hx0, hx1, hdf]
      have HCC : Hid (cd = if okD ws 6 120 then 0 else 5) := by show _ = _; rw [← HC.out]; unfold unC; rw [if_neg (by omega), if_pos HW.out]
      clear hx0 hx1 hN hM hdf hpl
      go_wp2_with fail
      refine (RDL).mono ?_
      rintro e w1 ⟨va, vc, sa, sc, mid, rfl, RV, RS, hm1, hm2, BB⟩
      clear RDL
      have DM : Hid (w.heap.size ≤ mid) := Nat.le_trans B.size hm1
      have DN : Hid (b0 < mid) := Nat.lt_of_lt_of_le H0.out hm1
      replace RV := RV.widen H0.out (Nat.le_refl mid)
      have DX : Hid (mid ≤ w1.heap.size) := hm2
      have DE : Hid (w.heap.size ≤ b0 + 1) := Nat.le_succ_of_le O0.out
      have HRW : Hid (w1.heap.size ≤ w1.heap.size) := Nat.le_refl _
      clear hm1 hm2
      replace c0_0 := cell_later BB c0_0
      replace c0_1 := cell_later BB c0_1
      replace c0_2 := cell_later BB c0_2
      replace c0_3 := cell_later BB c0_3
      replace c0_4 := cell_later BB c0_4
      replace y0_0 := frozen_later BB H0.out y0_0
      replace y0_1 := frozen_later BB H0.out y0_1
      replace y0_2 := frozen_later BB H0.out y0_2
      replace y0_3 := frozen_later BB H0.out y0_3
      replace y0_4 := frozen_later BB H0.out y0_4
      replace H0 : Hid (b0 < w1.heap.size) := Nat.lt_of_lt_of_le H0.out BB.size
      replace B := below_next B BB
      clear BB
      go_wp2_with (first | ((with_reducible refine alloc_new 78 #[.int .i64 0, .int .i64 0, .slice none 0 0, .slice none 0 0] (fun _ => by kernel_rfl) ?_); intro b1 W1 N1; have O1 : Hid (b0 < b1) := Nat.lt_of_lt_of_le H0.out N1.ge; replace c0_0 := cell_later N1.below c0_0; replace c0_1 := cell_later N1.below c0_1; replace c0_2 := cell_later N1.below c0_2; replace c0_3 := cell_later N1.below c0_3; replace c0_4 := cell_later N1.below c0_4; replace y0_0 := frozen_later N1.below H0.out y0_0; replace y0_1 := frozen_later N1.below H0.out y0_1; replace y0_2 := frozen_later N1.below H0.out y0_2; replace y0_3 := frozen_later N1.below H0.out y0_3; replace y0_4 := frozen_later N1.below H0.out y0_4; replace H0 : Hid (b0 < W1.heap.size) := Nat.lt_of_lt_of_le H0.out N1.below.size; replace RV := RV.below N1.below; replace RS := RS.below N1.below; replace B := below_next B N1.below; have H1 : Hid (b1 < W1.heap.size) := N1.lt; have c1_0 : W1.cell? ⟨b1, 0, none⟩ = some (.int .i64 0) := N1.cell 0 _ rfl; have c1_1 : W1.cell? ⟨b1, 1, none⟩ = some (.int .i64 0) := N1.cell 1 _ rfl; have c1_2 : W1.cell? ⟨b1, 2, none⟩ = some (.slice none 0 0) := N1.cell 2 _ rfl; have c1_3 : W1.cell? ⟨b1, 3, none⟩ = some (.slice none 0 0) := N1.cell 3 _ rfl; have y1_0 : W1.frozen? ⟨b1, 0, none⟩ = false := N1.froz 0; have y1_1 : W1.frozen? ⟨b1, 1, none⟩ = false := N1.froz 1; have y1_2 : W1.frozen? ⟨b1, 2, none⟩ = false := N1.froz 2; have y1_3 : W1.frozen? ⟨b1, 3, none⟩ = false := N1.froz 3; have G1 : Hid (w1.heap.size ≤ b1) := N1.ge; clear N1) | ((with_reducible refine store_box 78 b1 [.int .i64 x0, .int .i64 x1, .slice va N vc, .slice sa M sc] (by simp) (there4 c1_0 c1_1 c1_2 c1_3 y1_0 y1_1 y1_2 y1_3) (by kernel_rfl) (by simp [Value.oneCell']) rfl rfl ?_); intro W1s S1; replace c0_0 := S1.at c0_0 (by have q1 := O1.out; omega); replace c0_1 := S1.at c0_1 (by have q1 := O1.out; omega); replace c0_2 := S1.at c0_2 (by have q1 := O1.out; omega); replace c0_3 := S1.at c0_3 (by have q1 := O1.out; omega); replace c0_4 := S1.at c0_4 (by have q1 := O1.out; omega); replace y0_0 := S1.fr y0_0; replace y0_1 := S1.fr y0_1; replace y0_2 := S1.fr y0_2; replace y0_3 := S1.fr y0_3; replace y0_4 := S1.fr y0_4; replace H0 : Hid (b0 < W1s.heap.size) := Nat.lt_of_lt_of_le H0.out S1.kept.size; replace c1_0 : W1s.cell? ⟨b1, 0, none⟩ = some (.int .i64 x0) := S1.cell 0 _ rfl; replace c1_1 : W1s.cell? ⟨b1, 1, none⟩ = some (.int .i64 x1) := S1.cell 1 _ rfl; replace c1_2 : W1s.cell? ⟨b1, 2, none⟩ = some (.slice va N vc) := S1.cell 2 _ rfl; replace c1_3 : W1s.cell? ⟨b1, 3, none⟩ = some (.slice sa M sc) := S1.cell 3 _ rfl; replace y1_0 := S1.fr y1_0; replace y1_1 := S1.fr y1_1; replace y1_2 := S1.fr y1_2; replace y1_3 := S1.fr y1_3; replace H1 : Hid (b1 < W1s.heap.size) := Nat.lt_of_lt_of_le H1.out S1.kept.size; replace B := B.trans (S1.kept.below _ (Nat.le_trans O0.out (by have q1 := O1.out; omega)) B.size); replace RV := RV.kept S1.kept (Or.inl (Nat.le_trans DX.out G1.out)); replace RS := RS.kept S1.kept (Or.inl G1.out); clear S1) | fail)
      have DA : DeAt W1s true (b0 + 1) W1s.heap.size va N vc sa M sc (rdV ws N) (rdS ws N M) := ⟨RV.widen (Nat.le_refl _) (Nat.le_trans DX.out (Nat.le_trans G1.out (Nat.le_of_lt H1.out))), RS.widen DN.out (Nat.le_trans G1.out (Nat.le_of_lt H1.out))⟩
      refine (implPack_is x0 x1 va N vc sa M sc (rdV ws N) (rdS ws N M) _ DA (by omega) (by omega) df pl HDF.out HPL.out).mono ?_
      rintro e w2 ⟨pa, pn, pc, rfl, RP, BB⟩
      clear DA
      replace c0_0 := cell_later BB c0_0
      replace c0_1 := cell_later BB c0_1
      replace c0_2 := cell_later BB c0_2
      replace c0_3 := cell_later BB c0_3
      replace c0_4 := cell_later BB c0_4
      replace y0_0 := frozen_later BB H0.out y0_0
      replace y0_1 := frozen_later BB H0.out y0_1
      replace y0_2 := frozen_later BB H0.out y0_2
      replace y0_3 := frozen_later BB H0.out y0_3
      replace y0_4 := frozen_later BB H0.out y0_4
      replace H0 : Hid (b0 < w2.heap.size) := Nat.lt_of_lt_of_le H0.out BB.size
      replace c1_0 := cell_later BB c1_0
      replace c1_1 := cell_later BB c1_1
      replace c1_2 := cell_later BB c1_2
      replace c1_3 := cell_later BB c1_3
      replace y1_0 := frozen_later BB H1.out y1_0
      replace y1_1 := frozen_later BB H1.out y1_1
      replace y1_2 := frozen_later BB H1.out y1_2
      replace y1_3 := frozen_later BB H1.out y1_3
      replace H1 : Hid (b1 < w2.heap.size) := Nat.lt_of_lt_of_le H1.out BB.size
      replace RV := RV.below BB
      replace RS := RS.below BB
      replace B := below_next B BB
      clear BB
      by_cases hd0 : df = 0
      rotate_left 1
      · have hz : (df != 0) = true := by simp [hd0]
        have HO : okD ws 6 120 = false := by rw [HOD.out, decide_eq_false hd0]; rfl
        have HCODE : cd = 5 := by rw [HCC.out, HO]; rfl
        have e0 : cd = 5 := HCODE
        have e1 : fr = 0 := by rw [← HF.out]; unfold unFr; rw [HC.out, e0]; rfl
        have e2 : tt = 0 := by rw [← HG.out]; unfold unTo; rw [HC.out, e0]; rfl
        have e3 : vs = [] := by rw [← HV.out]; unfold unVs; rw [HC.out, e0]; rfl
        have e4 : ss = [] := by rw [← HS.out]; unfold unSs; rw [HC.out, e0]; rfl
        subst e0 e1 e2 e3 e4
        go_wp2_with (first | ((with_reducible refine alloc_new 92 #[.int .i64 0, .slice none 0 0] (fun _ => by kernel_rfl) ?_); intro b2 W2 N2; have O2 : Hid (b1 < b2) := Nat.lt_of_lt_of_le H1.out N2.ge; replace c0_0 := cell_later N2.below c0_0; replace c0_1 := cell_later N2.below c0_1; replace c0_2 := cell_later N2.below c0_2; replace c0_3 := cell_later N2.below c0_3; replace c0_4 := cell_later N2.below c0_4; replace y0_0 := frozen_later N2.below H0.out y0_0; replace y0_1 := frozen_later N2.below H0.out y0_1; replace y0_2 := frozen_later N2.below H0.out y0_2; replace y0_3 := frozen_later N2.below H0.out y0_3; replace y0_4 := frozen_later N2.below H0.out y0_4; replace H0 : Hid (b0 < W2.heap.size) := Nat.lt_of_lt_of_le H0.out N2.below.size; replace c1_0 := cell_later N2.below c1_0; replace c1_1 := cell_later N2.below c1_1; replace c1_2 := cell_later N2.below c1_2; replace c1_3 := cell_later N2.below c1_3; replace y1_0 := frozen_later N2.below H1.out y1_0; replace y1_1 := frozen_later N2.below H1.out y1_1; replace y1_2 := frozen_later N2.below H1.out y1_2; replace y1_3 := frozen_later N2.below H1.out y1_3; replace H1 : Hid (b1 < W2.heap.size) := Nat.lt_of_lt_of_le H1.out N2.below.size; replace RV := RV.below N2.below; replace RS := RS.below N2.below; replace RP := RP.below N2.below; replace B := below_next B N2.below; have H2 : Hid (b2 < W2.heap.size) := N2.lt; have c2_0 : W2.cell? ⟨b2, 0, none⟩ = some (.int .i64 0) := N2.cell 0 _ rfl; have c2_1 : W2.cell? ⟨b2, 1, none⟩ = some (.slice none 0 0) := N2.cell 1 _ rfl; have y2_0 : W2.frozen? ⟨b2, 0, none⟩ = false := N2.froz 0; have y2_1 : W2.frozen? ⟨b2, 1, none⟩ = false := N2.froz 1; have G2 : Hid (w2.heap.size ≤ b2) := N2.ge; clear N2) | ((with_reducible refine store_box 92 b2 [.int .i64 df, .slice pa pn pc] (by simp) (there2 c2_0 c2_1 y2_0 y2_1) (by kernel_rfl) (by simp [Value.oneCell']) rfl rfl ?_); intro W2s S2; replace c0_0 := S2.at c0_0 (by have q1 := O1.out; have q2 := O2.out; omega); replace c0_1 := S2.at c0_1 (by have q1 := O1.out; have q2 := O2.out; omega); replace c0_2 := S2.at c0_2 (by have q1 := O1.out; have q2 := O2.out; omega); replace c0_3 := S2.at c0_3 (by have q1 := O1.out; have q2 := O2.out; omega); replace c0_4 := S2.at c0_4 (by have q1 := O1.out; have q2 := O2.out; omega); replace y0_0 := S2.fr y0_0; replace y0_1 := S2.fr y0_1; replace y0_2 := S2.fr y0_2; replace y0_3 := S2.fr y0_3; replace y0_4 := S2.fr y0_4; replace H0 : Hid (b0 < W2s.heap.size) := Nat.lt_of_lt_of_le H0.out S2.kept.size; replace c1_0 := S2.at c1_0 (by have q2 := O2.out; omega); replace c1_1 := S2.at c1_1 (by have q2 := O2.out; omega); replace c1_2 := S2.at c1_2 (by have q2 := O2.out; omega); replace c1_3 := S2.at c1_3 (by have q2 := O2.out; omega); replace y1_0 := S2.fr y1_0; replace y1_1 := S2.fr y1_1; replace y1_2 := S2.fr y1_2; replace y1_3 := S2.fr y1_3; replace H1 : Hid (b1 < W2s.heap.size) := Nat.lt_of_lt_of_le H1.out S2.kept.size; replace c2_0 : W2s.cell? ⟨b2, 0, none⟩ = some (.int .i64 df) := S2.cell 0 _ rfl; replace c2_1 : W2s.cell? ⟨b2, 1, none⟩ = some (.slice pa pn pc) := S2.cell 1 _ rfl; replace y2_0 := S2.fr y2_0; replace y2_1 := S2.fr y2_1; replace H2 : Hid (b2 < W2s.heap.size) := Nat.lt_of_lt_of_le H2.out S2.kept.size; replace B := B.trans (S2.kept.below _ (Nat.le_trans O0.out (by have q1 := O1.out; have q2 := O2.out; omega)) B.size); replace RV := RV.kept S2.kept (Or.inl (Nat.le_trans DX.out (Nat.le_trans G1.out (Nat.le_of_lt O2.out)))); replace RS := RS.kept S2.kept (Or.inl (Nat.le_trans G1.out (Nat.le_of_lt O2.out))); replace RP := RP.kept S2.kept (Or.inl G2.out); clear S2) | fail)
        refine bodyPost_ret (v := .agg #[.int .i64 5, .int .i64 0, .int .i64 0, .slice none 0 0, .slice none 0 0]) (by simp [results, Try.results57, go_sem, c0_0, c0_1, c0_2, c0_3, c0_4]) rfl ?_
        have KZ : Kept b0 (b0 + 1) W2s (((((W2s.setCell ⟨b0, 0, none⟩ (.int .i64 5)).setCell ⟨b0, 1, none⟩ (.int .i64 0)).setCell ⟨b0, 2, none⟩ (.int .i64 0)).setCell ⟨b0, 3, none⟩ (.slice none 0 0)).setCell ⟨b0, 4, none⟩ (.slice none 0 0)) := by refine Kept.setCell (Kept.setCell (Kept.setCell (Kept.setCell (Kept.setCell (Kept.refl _ _ _) ?_ ?_ _) ?_ ?_ _) ?_ ?_ _) ?_ ?_ _) ?_ ?_ _ <;> simp
        have s := KZ.size
        exact ⟨_, _, _, _, _, _, _, rfl, RowAt.nil _ _ _ _ _, RowAt.nil _ _ _ _ _, Nat.le_refl _, Nat.le_trans B.size s, B.trans (KZ.below _ O0.out B.size)⟩
      subst hd0
      have hz : ((0 : Int) != 0) = false := rfl
      obtain rfl : pl = packW x0 x1 (rdV ws N) (rdS ws N M) := by rw [← HPL.out]; unfold packL; rw [if_pos HDF.out]
      obtain ⟨dd, hdd⟩ : ∃ d, decide (packW x0 x1 (rdV ws N) (rdS ws N M) = ws) = d := ⟨_, rfl⟩
      have HDD : Hid _ := hdd
      clear hdd
      have hpn : pn ≤ 2097152 := by rw [← RP.nInts, packW_len, rdV_len, rdS_len]; omega
      go_wp2_with (first | ((with_reducible refine alloc_new 92 #[.int .i64 0, .slice none 0 0] (fun _ => by kernel_rfl) ?_); intro b2 W2 N2; have O2 : Hid (b1 < b2) := Nat.lt_of_lt_of_le H1.out N2.ge; replace c0_0 := cell_later N2.below c0_0; replace c0_1 := cell_later N2.below c0_1; replace c0_2 := cell_later N2.below c0_2; replace c0_3 := cell_later N2.below c0_3; replace c0_4 := cell_later N2.below c0_4; replace y0_0 := frozen_later N2.below H0.out y0_0; replace y0_1 := frozen_later N2.below H0.out y0_1; replace y0_2 := frozen_later N2.below H0.out y0_2; replace y0_3 := frozen_later N2.below H0.out y0_3; replace y0_4 := frozen_later N2.below H0.out y0_4; replace H0 : Hid (b0 < W2.heap.size) := Nat.lt_of_lt_of_le H0.out N2.below.size; replace c1_0 := cell_later N2.below c1_0; replace c1_1 := cell_later N2.below c1_1; replace c1_2 := cell_later N2.below c1_2; replace c1_3 := cell_later N2.below c1_3; replace y1_0 := frozen_later N2.below H1.out y1_0; replace y1_1 := frozen_later N2.below H1.out y1_1; replace y1_2 := frozen_later N2.below H1.out y1_2; replace y1_3 := frozen_later N2.below H1.out y1_3; replace H1 : Hid (b1 < W2.heap.size) := Nat.lt_of_lt_of_le H1.out N2.below.size; replace RV := RV.below N2.below; replace RS := RS.below N2.below; replace RP := RP.below N2.below; replace B := below_next B N2.below; have H2 : Hid (b2 < W2.heap.size) := N2.lt; have c2_0 : W2.cell? ⟨b2, 0, none⟩ = some (.int .i64 0) := N2.cell 0 _ rfl; have c2_1 : W2.cell? ⟨b2, 1, none⟩ = some (.slice none 0 0) := N2.cell 1 _ rfl; have y2_0 : W2.frozen? ⟨b2, 0, none⟩ = false := N2.froz 0; have y2_1 : W2.frozen? ⟨b2, 1, none⟩ = false := N2.froz 1; have G2 : Hid (w2.heap.size ≤ b2) := N2.ge; clear N2) | ((with_reducible refine store_box 92 b2 [.int .i64 0, .slice pa pn pc] (by simp) (there2 c2_0 c2_1 y2_0 y2_1) (by kernel_rfl) (by simp [Value.oneCell']) rfl rfl ?_); intro W2s S2; replace c0_0 := S2.at c0_0 (by have q1 := O1.out; have q2 := O2.out; omega); replace c0_1 := S2.at c0_1 (by have q1 := O1.out; have q2 := O2.out; omega); replace c0_2 := S2.at c0_2 (by have q1 := O1.out; have q2 := O2.out; omega); replace c0_3 := S2.at c0_3 (by have q1 := O1.out; have q2 := O2.out; omega); replace c0_4 := S2.at c0_4 (by have q1 := O1.out; have q2 := O2.out; omega); replace y0_0 := S2.fr y0_0; replace y0_1 := S2.fr y0_1; replace y0_2 := S2.fr y0_2; replace y0_3 := S2.fr y0_3; replace y0_4 := S2.fr y0_4; replace H0 : Hid (b0 < W2s.heap.size) := Nat.lt_of_lt_of_le H0.out S2.kept.size; replace c1_0 := S2.at c1_0 (by have q2 := O2.out; omega); replace c1_1 := S2.at c1_1 (by have q2 := O2.out; omega); replace c1_2 := S2.at c1_2 (by have q2 := O2.out; omega); replace c1_3 := S2.at c1_3 (by have q2 := O2.out; omega); replace y1_0 := S2.fr y1_0; replace y1_1 := S2.fr y1_1; replace y1_2 := S2.fr y1_2; replace y1_3 := S2.fr y1_3; replace H1 : Hid (b1 < W2s.heap.size) := Nat.lt_of_lt_of_le H1.out S2.kept.size; replace c2_0 : W2s.cell? ⟨b2, 0, none⟩ = some (.int .i64 0) := S2.cell 0 _ rfl; replace c2_1 : W2s.cell? ⟨b2, 1, none⟩ = some (.slice pa pn pc) := S2.cell 1 _ rfl; replace y2_0 := S2.fr y2_0; replace y2_1 := S2.fr y2_1; replace H2 : Hid (b2 < W2s.heap.size) := Nat.lt_of_lt_of_le H2.out S2.kept.size; replace B := B.trans (S2.kept.below _ (Nat.le_trans O0.out (by have q1 := O1.out; have q2 := O2.out; omega)) B.size); replace RV := RV.kept S2.kept (Or.inl (Nat.le_trans DX.out (Nat.le_trans G1.out (Nat.le_of_lt O2.out)))); replace RS := RS.kept S2.kept (Or.inl (Nat.le_trans G1.out (Nat.le_of_lt O2.out))); replace RP := RP.kept S2.kept (Or.inl G2.out); clear S2) | fail)
      refine (numsEq_i pa pn pc (some ⟨b, off, none⟩) k c (packW x0 x1 (rdV ws N) (rdS ws N M)) ws _ RP (h.below B) hpn (by omega) dd HDD.out).mono ?_
      rintro e w3 ⟨rfl, BB⟩
      replace c0_0 := cell_later BB c0_0
      replace c0_1 := cell_later BB c0_1
      replace c0_2 := cell_later BB c0_2
      replace c0_3 := cell_later BB c0_3
      replace c0_4 := cell_later BB c0_4
      replace y0_0 := frozen_later BB H0.out y0_0
      replace y0_1 := frozen_later BB H0.out y0_1
      replace y0_2 := frozen_later BB H0.out y0_2
      replace y0_3 := frozen_later BB H0.out y0_3
      replace y0_4 := frozen_later BB H0.out y0_4
      replace H0 : Hid (b0 < w3.heap.size) := Nat.lt_of_lt_of_le H0.out BB.size
      replace c1_0 := cell_later BB c1_0
      replace c1_1 := cell_later BB c1_1
      replace c1_2 := cell_later BB c1_2
      replace c1_3 := cell_later BB c1_3
      replace y1_0 := frozen_later BB H1.out y1_0
      replace y1_1 := frozen_later BB H1.out y1_1
      replace y1_2 := frozen_later BB H1.out y1_2
      replace y1_3 := frozen_later BB H1.out y1_3
      replace H1 : Hid (b1 < w3.heap.size) := Nat.lt_of_lt_of_le H1.out BB.size
      replace c2_0 := cell_later BB c2_0
      replace c2_1 := cell_later BB c2_1
      replace y2_0 := frozen_later BB H2.out y2_0
      replace y2_1 := frozen_later BB H2.out y2_1
      replace H2 : Hid (b2 < w3.heap.size) := Nat.lt_of_lt_of_le H2.out BB.size
      replace RV := RV.below BB
      replace RS := RS.below BB
      replace RP := RP.below BB
      replace B := below_next B BB
      clear BB
      cases dd with
      | false =>
        have HO : okD ws 6 120 = false := by rw [HOD.out, HDD.out]; rfl
        have HCODE : cd = 5 := by rw [HCC.out, HO]; rfl
        have e0 : cd = 5 := HCODE
        have e1 : fr = 0 := by rw [← HF.out]; unfold unFr; rw [HC.out, e0]; rfl
        have e2 : tt = 0 := by rw [← HG.out]; unfold unTo; rw [HC.out, e0]; rfl
        have e3 : vs = [] := by rw [← HV.out]; unfold unVs; rw [HC.out, e0]; rfl
        have e4 : ss = [] := by rw [← HS.out]; unfold unSs; rw [HC.out, e0]; rfl
        subst e0 e1 e2 e3 e4
        go_wp2
        refine bodyPost_ret (v := .agg #[.int .i64 5, .int .i64 0, .int .i64 0, .slice none 0 0, .slice none 0 0]) (by simp [results, Try.results57, go_sem, c0_0, c0_1, c0_2, c0_3, c0_4]) rfl ?_
        have KZ : Kept b0 (b0 + 1) w3 (((((w3.setCell ⟨b0, 0, none⟩ (.int .i64 5)).setCell ⟨b0, 1, none⟩ (.int .i64 0)).setCell ⟨b0, 2, none⟩ (.int .i64 0)).setCell ⟨b0, 3, none⟩ (.slice none 0 0)).setCell ⟨b0, 4, none⟩ (.slice none 0 0)) := by refine Kept.setCell (Kept.setCell (Kept.setCell (Kept.setCell (Kept.setCell (Kept.refl _ _ _) ?_ ?_ _) ?_ ?_ _) ?_ ?_ _) ?_ ?_ _) ?_ ?_ _ <;> simp
        have s := KZ.size
        exact ⟨_, _, _, _, _, _, _, rfl, RowAt.nil _ _ _ _ _, RowAt.nil _ _ _ _ _, Nat.le_refl _, Nat.le_trans B.size s, B.trans (KZ.below _ O0.out B.size)⟩
      | true =>
        have HO : okD ws 6 120 = true := by rw [HOD.out, HDD.out]; rfl
        have e0 : cd = 0 := by rw [HCC.out, HO]; rfl
        have e1 : fr = x0 := by rw [← HF.out]; unfold unFr; rw [HC.out, e0, if_pos rfl]; exact X0.out
        have e2 : tt = x1 := by rw [← HG.out]; unfold unTo; rw [HC.out, e0, if_pos rfl]; exact X1.out
        have e3 : vs = rdV ws N := by rw [← HV.out]; unfold unVs; rw [HC.out, e0, if_pos rfl, HN.out]
        have e4 : ss = rdS ws N M := by rw [← HS.out]; unfold unSs; rw [HC.out, e0, if_pos rfl, HN.out, HM.out]
        have E1 : Hid _ := e1
        have E2 : Hid _ := e2
        have E3 : Hid _ := e3
        have E4 : Hid _ := e4
        clear HO e1 e2 e3 e4
        subst e0
        go_wp2
        refine bodyPost_ret (v := .agg #[.int .i64 0, .int .i64 x0, .int .i64 x1, .slice va N vc, .slice sa M sc]) (by simp [results, Try.results57, go_sem, c0_0, c0_1, c0_2, c0_3, c0_4]) rfl ?_
        have KZ : Kept b0 (b0 + 1) w3 (((((w3.setCell ⟨b0, 0, none⟩ (.int .i64 0)).setCell ⟨b0, 1, none⟩ (.int .i64 x0)).setCell ⟨b0, 2, none⟩ (.int .i64 x1)).setCell ⟨b0, 3, none⟩ (.slice va N vc)).setCell ⟨b0, 4, none⟩ (.slice sa M sc)) := by refine Kept.setCell (Kept.setCell (Kept.setCell (Kept.setCell (Kept.setCell (Kept.refl _ _ _) ?_ ?_ _) ?_ ?_ _) ?_ ?_ _) ?_ ?_ _) ?_ ?_ _ <;> simp
        have s := KZ.size
        exact ⟨_, _, _, _, _, _, mid, by rw [E1.out, E2.out], by rw [E3.out]; exact (RV.kept KZ (Or.inr (Nat.le_refl _))).widen DE.out (Nat.le_refl _), by rw [E4.out]; exact (RS.kept KZ (Or.inr DN.out)).widen (Nat.le_refl _) (by have q1 := G1.out; have q2 := H1.out; omega), DM.out, (by have q0 := DX.out; have q1 := G1.out; have q2 := H1.out; omega), B.trans (KZ.below _ O0.out B.size)⟩

end Go.Proofs.Ytcbfmjanjciodaa

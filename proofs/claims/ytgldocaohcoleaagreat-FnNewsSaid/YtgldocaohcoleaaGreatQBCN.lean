/- Chapter 13: EvenCluster of the program. -/
import Derived.Test.YtgldocaohcoleaaGreatQAFN
import Derived.Test.YtgldocaohcoleaaGreatUAN
import Derived.Scope
import Derived.WalkMore
set_option maxRecDepth 20000
set_option maxHeartbeats 16000000
namespace Go.Proofs.YtgldocaohcoleaaGreat
open Go.RowKit
theorem auEven1_is {own o2 : Bool} {lo hi l2 u2 : Nat} (f r : Rep) (hf h : RH) (b0 : Nat) (w : World) (x : RepAt w own lo hi h r) (xf : RepAt w o2 l2 u2 hf f) (hz : h.L.2.1 ≤ 2097152) (hzf : hf.L.2.1 ≤ 2097152) (X0 : Bx w b0 [.int .i64 f.id, .int .i64 f.size, .int .i64 f.view, .bool f.normal, .int .i64 f.last, .slice hf.L.1 hf.L.2.1 hf.L.2.2, .int .i64 f.commit, .slice hf.O.1 hf.O.2.1 hf.O.2.2, .slice hf.A.1 hf.A.2.1 hf.A.2.2, .slice hf.D.1 hf.D.2.1 hf.D.2.2]) :
  Calls Tryz.prog 186 #[.agg #[.int .i64 r.id, .int .i64 r.size, .int .i64 r.view, .bool r.normal, .int .i64 r.last, .slice h.L.1 h.L.2.1 h.L.2.2, .int .i64 r.commit, .slice h.O.1 h.O.2.1 h.O.2.2, .slice h.A.1 h.A.2.1 h.A.2.2, .slice h.D.1 h.D.2.1 h.D.2.2], .pointer (some ⟨b0, 0, none⟩)] w fun e w' => e = .returned (.bool (auEv f r)) ∧ Below w.heap.size w w' := by
 have xl := x.log
 have yl := xf.log
 have hl := xl.nSixs
 obtain ⟨d1, hd1⟩ : ∃ q, r.normal = q := ⟨_, rfl⟩
 obtain ⟨d2, hd2⟩ : ∃ q, decide (r.view = f.view) = q := ⟨_, rfl⟩
 obtain ⟨d3, hd3⟩ : ∃ q, decide (r.log = f.log) = q := ⟨_, rfl⟩
 obtain ⟨d4, hd4⟩ : ∃ q, decide (r.commit = h.L.2.1) = q := ⟨_, rfl⟩
 obtain ⟨dd, hdd⟩ : ∃ q, auEv f r = q := ⟨_, rfl⟩
 have HDD : Hid ((((d1 && d2) && d3) && d4) = dd) := by show _ = _; rw [← hdd, ← hd1, ← hd2, ← hd3, ← hd4, ← hl]; rfl
 have HD2 : Hid _ := hd2
 have HD3 : Hid _ := hd3
 have HD4 : Hid _ := hd4
 rw [hdd, hd1]
 clear hd1 hd2 hd3 hd4 hdd x xf hl
 have c0 := X0.cell
 have ob0 := X0.lt
 cases d1 with
 | false =>
  go_enter Tryz.func186, Tryz.ntmps186
  go_wp2_with (first | ((have g := ob0); clear g; (with_reducible refine box_newX 65 [.int .i64 r.id, .int .i64 r.size, .int .i64 r.view, .bool false, .int .i64 r.last, .slice h.L.1 h.L.2.1 h.L.2.2, .int .i64 r.commit, .slice h.O.1 h.O.2.1 h.O.2.2, .slice h.A.1 h.A.2.1 h.A.2.2, .slice h.D.1 h.D.2.1 h.D.2.2] rfl ?_); intro b1 W1 N1; have ob1 := N1.ge; have o0_b1 := ltl X0.lt N1.ge; replace X0 := X0.below N1.below; replace c0 := X0.cell; have B := N1.below; have X1 := N1.bx; have c1 := X1.cell; clear N1) | fail)
  obtain rfl : dd = false := by rw [← HDD.out]; rfl
  go_wp2
  go_ret
  exact ⟨rfl, B⟩
 | true =>
  cases d2 with
  | false =>
   have q2 : ¬ r.view = f.view := of_decide_eq_false HD2.out
   have q2' : (r.view == f.view) = false := by simp [q2]
   go_enter Tryz.func186, Tryz.ntmps186
   go_wp2_with (first | ((have g := ob0); clear g; (with_reducible refine box_newX 65 [.int .i64 r.id, .int .i64 r.size, .int .i64 r.view, .bool true, .int .i64 r.last, .slice h.L.1 h.L.2.1 h.L.2.2, .int .i64 r.commit, .slice h.O.1 h.O.2.1 h.O.2.2, .slice h.A.1 h.A.2.1 h.A.2.2, .slice h.D.1 h.D.2.1 h.D.2.2] rfl ?_); intro b1 W1 N1; have ob1 := N1.ge; have o0_b1 := ltl X0.lt N1.ge; replace X0 := X0.below N1.below; replace c0 := X0.cell; have B := N1.below; have X1 := N1.bx; have c1 := X1.cell; clear N1) | fail)
   obtain rfl : dd = false := by rw [← HDD.out]; rfl
   go_wp2
   go_ret
   exact ⟨rfl, B⟩
  | true =>
   have q2 : r.view = f.view := of_decide_eq_true HD2.out
   have q2' : (r.view == f.view) = true := by simp [q2]
   clear q2
   go_enter Tryz.func186, Tryz.ntmps186
   go_wp2_with (first | ((have g := ob0); clear g; (with_reducible refine box_newX 65 [.int .i64 r.id, .int .i64 r.size, .int .i64 r.view, .bool true, .int .i64 r.last, .slice h.L.1 h.L.2.1 h.L.2.2, .int .i64 r.commit, .slice h.O.1 h.O.2.1 h.O.2.2, .slice h.A.1 h.A.2.1 h.A.2.2, .slice h.D.1 h.D.2.1 h.D.2.2] rfl ?_); intro b1 W1 N1; have ob1 := N1.ge; have o0_b1 := ltl X0.lt N1.ge; replace X0 := X0.below N1.below; replace c0 := X0.cell; have B := N1.below; have X1 := N1.bx; have c1 := X1.cell; clear N1) | fail)
   refine (auLogsEq h.L.1 h.L.2.1 h.L.2.2 hf.L.1 hf.L.2.1 hf.L.2.2 r.log f.log _ (xl.below B) (yl.below B) hz hzf d3 HD3.out).mono ?_
   rintro e w2 ⟨rfl, BB⟩
   replace X0 := X0.below BB
   replace c0 := X0.cell
   replace X1 := X1.below BB
   replace c1 := X1.cell
   replace B := below_next B BB
   clear BB
   cases d3 with
   | false =>
    obtain rfl : dd = false := by rw [← HDD.out]; rfl
    go_wp2
    go_ret
    exact ⟨rfl, B⟩
   | true =>
    obtain rfl : dd = d4 := by rw [← HDD.out]; rfl
    cases dd with
    | false =>
     have q4 : ¬ r.commit = h.L.2.1 := of_decide_eq_false HD4.out
     have q4' : (r.commit == (h.L.2.1 : Int)) = false := by simp [q4]
     go_wp2
     go_ret
     exact ⟨rfl, B⟩
    | true =>
     have q4 : r.commit = h.L.2.1 := of_decide_eq_true HD4.out
     have q4' : (r.commit == (h.L.2.1 : Int)) = true := by simp [q4]
     clear q4
     go_wp2
     go_ret
     exact ⟨rfl, B⟩
theorem auIsEven_is {own : Bool} {lo hi : Nat} (N M Sl : Hd) (xs : List Nod) (ms : List Mal) (es : List En) (w : World) (x : ClAt w own lo hi N M Sl xs ms es) (hs : ClSz N M Sl xs ms 1048576) (hr : cluF (xs.map (·.1)) (ms.map (·.1)) es = 0) (d : Bool) (hd : auEven (xs.map (·.1)) = d) :
  Calls Tryz.prog 106 #[.agg #[.slice N.1 N.2.1 N.2.2, .slice M.1 M.2.1 M.2.2, .slice Sl.1 Sl.2.1 Sl.2.2]] w fun e w' => e = .returned (.bool d) ∧ Below w.heap.size w w' := by
 obtain ⟨⟨ao, n, cap⟩, hN⟩ : ∃ q : Hd, N = q := ⟨N, rfl⟩
 subst hN
 have HRt : Hid _ := auRight x hr
 have HD : Hid _ := hd
 have HS : Hid _ := hs
 have Hx : Hid _ := x
 have hmf : ∀ (fn : Fn) (first cap : Array Value) (w : World), (Instr.makeFunc fn first cap).run Tryz.prog w = .ok (.func fn first cap) w := fun _ _ _ _ => rfl
 clear hd hr hs x
 have hn0 := HRt.out.1.1
 simp only at hn0 ⊢
 have hn0i : (0 : Int) < (n : Int) := by omega
 obtain ⟨f, hf, b, off, ex, rfl, _, _, XN, y, _⟩ := LAt.node Hx.out.nodes (i := 0) (by show 0 < n; omega)
 have HE : Hid (auEven (xs.map (·.1)) = (xs.map (·.1)).all (auEv f)) := by show _ = _; unfold auEven; rw [mapD ex]
 have HD2 : Hid ((xs.map (·.1)).all (auEv f) = d) := by show _ = _; rw [← HE.out]; exact HD.out
 have HF : Hid _ := (HS.out.nodes _ _ ex).L
 rw [Nat.zero_mul, Nat.add_zero] at XN
 clear HD HE ex
 have cN := XN.cell
 go_enter Tryz.func106, Tryz.ntmps106
 go_wp2_with (first | ((with_reducible refine store_midX 65 X1 0 [.int .i64 f.id, .int .i64 f.size, .int .i64 f.view, .bool f.normal, .int .i64 f.last, .slice hf.L.1 hf.L.2.1 hf.L.2.2, .int .i64 f.commit, .slice hf.O.1 hf.O.2.1 hf.O.2.2, .slice hf.A.1 hf.A.2.1 hf.A.2.2, .slice hf.D.1 hf.D.2.1 hf.D.2.2] (by simp) (by kernel_rfl) (by simp [Value.oneCell']) rfl rfl ?_); intro V1 S; replace X0 := X0.kp S.kept; replace c0 := X0.cell; replace X1 : Bx V1 b1 [.int .i64 f.id, .int .i64 f.size, .int .i64 f.view, .bool f.normal, .int .i64 f.last, .slice hf.L.1 hf.L.2.1 hf.L.2.2, .int .i64 f.commit, .slice hf.O.1 hf.O.2.1 hf.O.2.2, .slice hf.A.1 hf.A.2.1 hf.A.2.2, .slice hf.D.1 hf.D.2.1 hf.D.2.2] := S.bx; replace c1 := X1.cell; replace f1 := X1.froz; replace B := bkp B S.kept; clear S) | ((have g := ob0); clear g; (with_reducible refine alloc_newX 65 [.int .i64 0, .int .i64 0, .int .i64 0, .bool false, .int .i64 0, .slice none 0 0, .int .i64 0, .slice none 0 0, .slice none 0 0, .slice none 0 0] (fun _ => by kernel_rfl) ?_); intro b1 W1 N1; have ob1 := Nat.le_trans B.size N1.ge; have o0_b1 := ltl X0.lt N1.ge; replace X0 := X0.below N1.below; replace c0 := X0.cell; replace B := below_next B N1.below; have X1 := N1.bx; have c1 := X1.cell; have f1 := X1.froz; replace XN := XN.below N1.below; replace cN := XN.cell; clear N1) | ((with_reducible refine box_newX 32 [.slice (some ⟨b, off, none⟩) n cap, .slice M.1 M.2.1 M.2.2, .slice Sl.1 Sl.2.1 Sl.2.2] rfl ?_); intro b0 W0 N0; have ob0 := N0.ge; have B := N0.below; have X0 := N0.bx; have c0 := X0.cell; replace XN := XN.below N0.below; replace cN := XN.cell; clear N0) | fail)
 have HX1 : Hid _ := X1
 have HB1 : Hid _ := B
 refine (auEach1 186 (fun _ _ => rfl) b1 (some ⟨b, off, none⟩, n, cap) xs _ (Hx.out.nodes.below B) HS.out.n (auEv f) (fun W k r h hb ex y2 => auEven1_is f r hf h b1 W y2 ((y.below HB1.out).below hb) (Nat.le_trans (HS.out.nodes k _ ex).L (by omega)) (Nat.le_trans HF.out (by omega)) (HX1.out.below hb)) d HD2.out).mono ?_
 rintro e w2 ⟨rfl, BB⟩
 clear XN cN
 replace X0 := X0.below BB
 replace c0 := X0.cell
 replace X1 := X1.below BB
 replace c1 := X1.cell
 replace f1 := X1.froz
 replace B := below_next B BB
 clear BB
 go_wp2
 go_ret
 exact ⟨rfl, B⟩
theorem auEC_is {own : Bool} {lo hi : Nat} (N M Sl : Hd) (xs : List Nod) (ms : List Mal) (es : List En) (w : World) (x : ClAt w own lo hi N M Sl xs ms es) (hs : ClSz N M Sl xs ms 1048576) (d : Bool) (hd : (decide (cluF (xs.map (·.1)) (ms.map (·.1)) es = 0) && auEven (xs.map (·.1))) = d) :
  Calls Tryz.prog 38 #[.agg #[.slice N.1 N.2.1 N.2.2, .slice M.1 M.2.1 M.2.2, .slice Sl.1 Sl.2.1 Sl.2.2]] w fun e w' => e = .returned (.bool d) ∧ Below w.heap.size w w' := by
 have HD : Hid _ := hd
 have HS : Hid _ := hs
 have Hx : Hid _ := x
 clear hd hs x
 go_enter Tryz.func38, Tryz.ntmps38
 go_wp2_with (first | ((with_reducible refine box_newX 32 [.slice N.1 N.2.1 N.2.2, .slice M.1 M.2.1 M.2.2, .slice Sl.1 Sl.2.1 Sl.2.2] rfl ?_); intro b0 W0 N0; have ob0 := N0.ge; have B := N0.below; have X0 := N0.bx; have c0 := X0.cell; clear N0) | fail)
 refine (auHolds 106 (fun _ _ => rfl) N M Sl xs ms es _ (Hx.out.below B) HS.out _ (fun W hb hr => auIsEven_is N M Sl xs ms es W ((Hx.out.below B).below hb) HS.out hr _ rfl) d HD.out).mono ?_
 rintro e w1 ⟨rfl, BB⟩
 replace X0 := X0.below BB
 replace c0 := X0.cell
 replace B := below_next B BB
 clear BB
 go_wp2
 go_ret
 exact ⟨rfl, B⟩
theorem auEither_is {o1 o2 : Bool} {l1 u1 l2 u2 : Nat} (a1 a2 : Option Addr) (n c1 m c2 : Nat) (xs ys : List En) (w : World) (h1 : RowAt w o1 l1 u1 6 a1 n c1 (sixs xs)) (h2 : RowAt w o2 l2 u2 6 a2 m c2 (sixs ys)) (hn : n ≤ 2097152) (hm : m ≤ 2097152) (d1 d2 : Bool) (hd1 : decide (commN xs ys = n) = d1) (hd2 : decide (commN ys xs = m) = d2) :
  Calls Tryz.prog 242 #[.slice a1 n c1, .slice a2 m c2] w fun e w' => e = .returned (.bool (d1 || d2)) ∧ Below w.heap.size w w' := by
 go_enter Tryz.func242, Tryz.ntmps242
 go_wp2_with fail
 refine (implIsB_is a1 a2 n c1 m c2 xs ys _ h1 h2 hn d1 hd1).mono ?_
 rintro e w1 ⟨rfl, B⟩
 cases d1 with
 | true =>
  go_wp2
  go_ret
  exact ⟨rfl, B⟩
 | false =>
  go_wp2_with fail
  refine (implIsB_is a2 a1 m c2 n c1 ys xs _ (h2.below B) (h1.below B) hm d2 hd2).mono ?_
  rintro e w2 ⟨rfl, BB⟩
  replace B := below_next B BB
  go_wp2
  go_ret
  exact ⟨by cases d2 <;> rfl, B⟩
theorem auAgree_is {own : Bool} {lo hi : Nat} (N M Sl : Hd) (xs : List Nod) (ms : List Mal) (es : List En) (w : World) (x : ClAt w own lo hi N M Sl xs ms es) (hs : ClSz N M Sl xs ms 1048576) (hr : cluF (xs.map (·.1)) (ms.map (·.1)) es = 0) (d : Bool) (hd : auMatch (xs.map (·.1)) = d) :
  Calls Tryz.prog 189 #[.agg #[.slice N.1 N.2.1 N.2.2, .slice M.1 M.2.1 M.2.2, .slice Sl.1 Sl.2.1 Sl.2.2]] w fun e w' => e = .returned (.bool d) ∧ Below w.heap.size w w' := by
 obtain ⟨⟨ao, n, cap⟩, hN⟩ : ∃ q : Hd, N = q := ⟨N, rfl⟩
 subst hN
 have hl : (xs.map (·.1)).length = n := by simpa using x.nodes.len
 have hle := x.nodes.row.le
 have hn := hs.n
 have HRt : Hid _ := auRight x hr
 have HD : Hid _ := hd
 have HS : Hid _ := hs
 have Hx : Hid _ := x
 have hmf : ∀ (fn : Fn) (first cap : Array Value) (w : World), (Instr.makeFunc fn first cap).run Tryz.prog w = .ok (.func fn first cap) w := fun _ _ _ _ => rfl
 clear hd hr hs x
 obtain ⟨rs, hrs⟩ : ∃ rs, (xs.map (·.1)) = rs := ⟨_, rfl⟩
 have HR : Hid (∀ (i : Nat) (a : Nod), xs[i]? = some a → rs.getD i rep0 = a.1) := fun i a e => by rw [← hrs]; exact mapD e
 have HD2 := HD.out
 rw [hrs] at hl HD2
 replace HD : Hid _ := HD2
 have HL : Hid _ := hl
 clear HD2 hrs hl
 simp only at hle hn ⊢
 go_enter Tryz.func189, Tryz.ntmps189
 go_wp2_with (first | ((with_reducible refine box_newX 32 [.slice ao n cap, .slice M.1 M.2.1 M.2.2, .slice Sl.1 Sl.2.1 Sl.2.2] rfl ?_); intro b0 W0 N0; have ob0 := N0.ge; have B := N0.below; have X0 := N0.bx; have c0 := X0.cell; clear N0) | fail)
 refine wp_scope_straight ?_
 go_wp2_with fail
 refine wp_label ?_
 go_wp2_with fail
 have HX0 : Hid _ := X0
 have HB0 : Hid _ := B
 clear X0 c0 B
 go_loopw [3, 11] (fun v i wr => ∃ k : Nat, k ≤ n ∧ v = .bool true ∧ i = .int .i64 k ∧ Hid (∀ i, i < k → ∀ j, i < j → j < n → auPair (rs.getD j rep0) (rs.getD i rep0) = true) ∧ Below W0.heap.size W0 wr) (fun _ i _ => n - (intOf i).toNat)
 case atStart => exact ⟨0, Nat.zero_le _, rfl, rfl, fun j hj => absurd hj (Nat.not_lt_zero _), Below.refl _ _⟩
 case round =>
  obtain ⟨k, hk, rfl, rfl, H0, hb⟩ := hrel
  by_cases hlt : k < n
  ·have hlk : (k : Int) < (n : Int) := by omega
   have hk1 : (k : Int) + 1 ≤ (n : Int) := by omega
   have hk1c : (k : Int) + 1 ≤ (cap : Int) := by omega
   have hk0 : (0 : Int) ≤ (k : Int) + 1 := by omega
   have hnc : (n : Int) ≤ (cap : Int) := by omega
   have hbb := below_next HB0.out hb
   obtain ⟨r, h, b, off, ex, rfl, _, _, XN, y, _⟩ := LAt.node (NAt.below Hx.out.nodes hbb) hlt
   have X0 := HX0.out.below hb
   have c0 := X0.cell
   have ob0 := X0.lt
   have cN := XN.cell
   have HE : Hid (rs.getD k rep0 = r) := HR.out k _ ex
   have HEX : Hid _ := ex
   clear ex
   by_cases hce : cap = k + 1
   ·go_wp2_with (first | ((with_reducible refine store_midX 65 X1 0 [.int .i64 r.id, .int .i64 r.size, .int .i64 r.view, .bool r.normal, .int .i64 r.last, .slice h.L.1 h.L.2.1 h.L.2.2, .int .i64 r.commit, .slice h.O.1 h.O.2.1 h.O.2.2, .slice h.A.1 h.A.2.1 h.A.2.2, .slice h.D.1 h.D.2.1 h.D.2.2] (by simp) (by kernel_rfl) (by simp [Value.oneCell']) rfl rfl ?_); intro V1 S; replace X0 := X0.kp S.kept; replace c0 := X0.cell; replace X1 : Bx V1 b1 [.int .i64 r.id, .int .i64 r.size, .int .i64 r.view, .bool r.normal, .int .i64 r.last, .slice h.L.1 h.L.2.1 h.L.2.2, .int .i64 r.commit, .slice h.O.1 h.O.2.1 h.O.2.2, .slice h.A.1 h.A.2.1 h.A.2.2, .slice h.D.1 h.D.2.1 h.D.2.2] := S.bx; replace c1 := X1.cell; replace f1 := X1.froz; replace B := bkp B S.kept; clear S) | ((have g := ob0); clear g; (with_reducible refine alloc_newX 65 [.int .i64 0, .int .i64 0, .int .i64 0, .bool false, .int .i64 0, .slice none 0 0, .int .i64 0, .slice none 0 0, .slice none 0 0, .slice none 0 0] (fun _ => by kernel_rfl) ?_); intro b1 W1 N1; have ob1 := N1.ge; have o0_b1 := ltl X0.lt N1.ge; replace X0 := X0.below N1.below; replace c0 := X0.cell; have B := N1.below; have X1 := N1.bx; have c1 := X1.cell; have f1 := X1.froz; clear N1) | fail)
    clear XN cN
    have HB : Hid _ := below_next hb B
    clear hb hbb B X0 c0 X1 c1 f1 y
    generalize hm : n - (k + 1) = m
    go_loopw [3, 22] (fun v i wq => ∃ j : Nat, j ≤ m ∧ v = .bool true ∧ i = .int .i64 j ∧ Hid (∀ q, k < q → q < k + 1 + j → auPair (rs.getD q rep0) (rs.getD k rep0) = true) ∧ Below V1.heap.size V1 wq) (fun _ i _ => m - (intOf i).toNat)
    case atStart => exact ⟨0, Nat.zero_le _, rfl, rfl, fun q h1 h2 => absurd h2 (by omega), Below.refl _ _⟩
    case round =>
     obtain ⟨j, hj, rfl, rfl, H1, hc⟩ := hrel
     by_cases hlj : j < m
     ·exfalso; omega
     ·obtain rfl : j = m := by omega
      have HN : Hid (∀ i, i < (k + 1) → ∀ j, i < j → j < n → auPair (rs.getD j rep0) (rs.getD i rep0) = true) := fun i hi q h1 h2 => by
       by_cases e : i = k
       ·subst e; exact H1.out q h1 (by omega)
       ·exact H0.out i (by omega) q h1 h2
      have HB2 : Hid _ := below_next HB.out hc
      clear hc HB
      go_wp2
      rw [← hce]
      go_roundw
      case rel => exact ⟨k + 1, by omega, rfl, by go_num, HN, HB2.out⟩
      case measure => simp [intOf]; omega
   ·go_wp2_with (first | ((with_reducible refine store_midX 65 X1 0 [.int .i64 r.id, .int .i64 r.size, .int .i64 r.view, .bool r.normal, .int .i64 r.last, .slice h.L.1 h.L.2.1 h.L.2.2, .int .i64 r.commit, .slice h.O.1 h.O.2.1 h.O.2.2, .slice h.A.1 h.A.2.1 h.A.2.2, .slice h.D.1 h.D.2.1 h.D.2.2] (by simp) (by kernel_rfl) (by simp [Value.oneCell']) rfl rfl ?_); intro V1 S; replace X0 := X0.kp S.kept; replace c0 := X0.cell; replace X1 : Bx V1 b1 [.int .i64 r.id, .int .i64 r.size, .int .i64 r.view, .bool r.normal, .int .i64 r.last, .slice h.L.1 h.L.2.1 h.L.2.2, .int .i64 r.commit, .slice h.O.1 h.O.2.1 h.O.2.2, .slice h.A.1 h.A.2.1 h.A.2.2, .slice h.D.1 h.D.2.1 h.D.2.2] := S.bx; replace c1 := X1.cell; replace f1 := X1.froz; replace B := bkp B S.kept; clear S) | ((have g := ob0); clear g; (with_reducible refine alloc_newX 65 [.int .i64 0, .int .i64 0, .int .i64 0, .bool false, .int .i64 0, .slice none 0 0, .int .i64 0, .slice none 0 0, .slice none 0 0, .slice none 0 0] (fun _ => by kernel_rfl) ?_); intro b1 W1 N1; have ob1 := N1.ge; have o0_b1 := ltl X0.lt N1.ge; replace X0 := X0.below N1.below; replace c0 := X0.cell; have B := N1.below; have X1 := N1.bx; have c1 := X1.cell; have f1 := X1.froz; clear N1) | fail)
    clear XN cN
    have HX1 : Hid _ := X1
    have HB : Hid _ := below_next hb B
    have HW : Hid _ := below_next hbb B
    have Hy : Hid (RepAt _ _ _ _ _ _) := y.below B
    clear hb hbb B X0 c0 X1 c1 f1 y
    generalize hm : n - (k + 1) = m
    go_loopw [3, 22] (fun v i wq => ∃ j : Nat, j ≤ m ∧ v = .bool true ∧ i = .int .i64 j ∧ Hid (∀ q, k < q → q < k + 1 + j → auPair (rs.getD q rep0) (rs.getD k rep0) = true) ∧ Below V1.heap.size V1 wq) (fun _ i _ => m - (intOf i).toNat)
    case atStart => exact ⟨0, Nat.zero_le _, rfl, rfl, fun q h1 h2 => absurd h2 (by omega), Below.refl _ _⟩
    case round =>
     obtain ⟨j, hj, rfl, rfl, H1, hc⟩ := hrel
     by_cases hlj : j < m
     ·have hlj' : (j : Int) < (m : Int) := by omega
      have hbq := below_next HW.out hc
      have X1 := HX1.out.below hc
      have c1 := X1.cell
      have f1 := X1.froz
      have ob1 := X1.lt
      obtain ⟨r2, h2, b', off', ex2, eN, _, _, XN, y2, _⟩ := LAt.node (NAt.below Hx.out.nodes hbq) (i := k + 1 + j) (by show k + 1 + j < n; omega)
      simp only [Option.some.injEq, Addr.mk.injEq, and_true] at eN
      obtain ⟨rfl, rfl⟩ := eN
      rw [show off + (k + 1 + j) * 10 = off + (k + 1) * 10 + j * 10 by omega] at XN
      have cN := XN.cell
      have HE2 : Hid (rs.getD (k + 1 + j) rep0 = r2) := HR.out _ _ ex2
      have hs2 := (HS.out.nodes _ _ ex2).L
      have hs1 := (HS.out.nodes _ _ HEX.out).L
      simp only at hs1 hs2
      clear ex2
      have HNO : Hid (auPair r2 r = false → d = false) := fun z => by rw [← HD.out]; exact auMatch_no (i := k + 1 + j) (j := k) (by rw [HL.out]; omega) (by omega) (by rw [HE.out, HE2.out]; exact z)
      have HYES : Hid (auPair r2 r = true → ∀ q, k < q → q < k + 1 + (j + 1) → auPair (rs.getD q rep0) (rs.getD k rep0) = true) := fun z q h1 h3 => by
       by_cases e : q = k + 1 + j
       ·rw [e, HE.out, HE2.out]; exact z
       ·exact H1.out q h1 (by omega)
      clear H1 HD
      by_cases q0 : r.last = r2.last
      rotate_left 1
      ·have q0' : (r.last == r2.last) = false := by simp [q0]
       have HN : Hid _ := HYES.out (auPair_far (Ne.symm q0))
       clear HYES HNO
       go_wp2_with (first | ((with_reducible refine store_midX 65 X2 0 [.int .i64 r2.id, .int .i64 r2.size, .int .i64 r2.view, .bool r2.normal, .int .i64 r2.last, .slice h2.L.1 h2.L.2.1 h2.L.2.2, .int .i64 r2.commit, .slice h2.O.1 h2.O.2.1 h2.O.2.2, .slice h2.A.1 h2.A.2.1 h2.A.2.2, .slice h2.D.1 h2.D.2.1 h2.D.2.2] (by simp) (by kernel_rfl) (by simp [Value.oneCell']) rfl rfl ?_); intro V6 S; replace X1 := X1.kp S.kept; replace c1 := X1.cell; replace f1 := X1.froz; replace X2 : Bx V6 b2 [.int .i64 r2.id, .int .i64 r2.size, .int .i64 r2.view, .bool r2.normal, .int .i64 r2.last, .slice h2.L.1 h2.L.2.1 h2.L.2.2, .int .i64 r2.commit, .slice h2.O.1 h2.O.2.1 h2.O.2.2, .slice h2.A.1 h2.A.2.1 h2.A.2.2, .slice h2.D.1 h2.D.2.1 h2.D.2.2] := S.bx; replace c2 := X2.cell; replace f2 := X2.froz; replace B := bkp B S.kept; clear S) | ((have g := ob1); clear g; (with_reducible refine alloc_newX 65 [.int .i64 0, .int .i64 0, .int .i64 0, .bool false, .int .i64 0, .slice none 0 0, .int .i64 0, .slice none 0 0, .slice none 0 0, .slice none 0 0] (fun _ => by kernel_rfl) ?_); intro b2 W2 N2; have ob2 := N2.ge; have o1_b2 := ltl X1.lt N2.ge; replace X1 := X1.below N2.below; replace c1 := X1.cell; replace f1 := X1.froz; have B := N2.below; have X2 := N2.bx; have c2 := X2.cell; have f2 := X2.froz; clear N2) | fail)
       have HBq : Hid _ := below_next hc B
       clear hc
       go_wp2
       go_roundw
       case rel => exact ⟨j + 1, by omega, rfl, by go_num, HN, HBq.out⟩
       case measure => simp [intOf]; omega
      have q0' : (r.last == r2.last) = true := by simp [q0]
      obtain ⟨d1, hd1⟩ : ∃ q, decide (commN r.log r2.log = r.log.length) = q := ⟨_, rfl⟩
      obtain ⟨d2, hd2⟩ : ∃ q, decide (commN r2.log r.log = r2.log.length) = q := ⟨_, rfl⟩
      have HP : Hid (auPair r2 r = (d1 || d2)) := (auPair_symm r2 r).trans (auPair_near q0 hd1 hd2)
      have HD1 : Hid (decide (commN r.log r2.log = h.L.2.1) = d1) := by show _ = _; rw [← hd1, Hy.out.log.nSixs]
      have HD2 : Hid (decide (commN r2.log r.log = h2.L.2.1) = d2) := by show _ = _; rw [← hd2, y2.log.nSixs]
      clear hd1 hd2 q0
      go_wp2_with (first | ((with_reducible refine store_midX 65 X2 0 [.int .i64 r2.id, .int .i64 r2.size, .int .i64 r2.view, .bool r2.normal, .int .i64 r2.last, .slice h2.L.1 h2.L.2.1 h2.L.2.2, .int .i64 r2.commit, .slice h2.O.1 h2.O.2.1 h2.O.2.2, .slice h2.A.1 h2.A.2.1 h2.A.2.2, .slice h2.D.1 h2.D.2.1 h2.D.2.2] (by simp) (by kernel_rfl) (by simp [Value.oneCell']) rfl rfl ?_); intro V6 S; replace X1 := X1.kp S.kept; replace c1 := X1.cell; replace f1 := X1.froz; replace X2 : Bx V6 b2 [.int .i64 r2.id, .int .i64 r2.size, .int .i64 r2.view, .bool r2.normal, .int .i64 r2.last, .slice h2.L.1 h2.L.2.1 h2.L.2.2, .int .i64 r2.commit, .slice h2.O.1 h2.O.2.1 h2.O.2.2, .slice h2.A.1 h2.A.2.1 h2.A.2.2, .slice h2.D.1 h2.D.2.1 h2.D.2.2] := S.bx; replace c2 := X2.cell; replace f2 := X2.froz; replace B := bkp B S.kept; clear S) | ((have g := ob1); clear g; (with_reducible refine alloc_newX 65 [.int .i64 0, .int .i64 0, .int .i64 0, .bool false, .int .i64 0, .slice none 0 0, .int .i64 0, .slice none 0 0, .slice none 0 0, .slice none 0 0] (fun _ => by kernel_rfl) ?_); intro b2 W2 N2; have ob2 := N2.ge; have o1_b2 := ltl X1.lt N2.ge; replace X1 := X1.below N2.below; replace c1 := X1.cell; replace f1 := X1.froz; have B := N2.below; have X2 := N2.bx; have c2 := X2.cell; have f2 := X2.froz; clear N2) | fail)
      clear XN cN
      refine (auEither_is h.L.1 h2.L.1 h.L.2.1 h.L.2.2 h2.L.2.1 h2.L.2.2 r.log r2.log _ ((Hy.out.log.below hc).below B) (y2.log.below B) (by omega) (by omega) d1 d2 HD1.out HD2.out).mono ?_
      rintro e w3 ⟨rfl, BB⟩
      replace X1 := X1.below BB
      replace c1 := X1.cell
      replace f1 := X1.froz
      replace X2 := X2.below BB
      replace c2 := X2.cell
      replace f2 := X2.froz
      replace B := below_next B BB
      clear BB
      cases hdd : (d1 || d2) with
      | true =>
       have HN : Hid _ := HYES.out (HP.out.trans hdd)
       clear HYES HNO
       have HBq : Hid _ := below_next hc B
       clear hc
       go_wp2
       go_roundw
       case rel => exact ⟨j + 1, by omega, rfl, by go_num, HN, HBq.out⟩
       case measure => simp [intOf]; omega
      | false =>
       have e : d = false := HNO.out (HP.out.trans hdd)
       subst e
       clear HYES HNO
       have hfin := below_next hbq B
       go_wp2
       rw [Exit.noGoto_ret]
       go_ret
       exact ⟨rfl, hfin⟩
     ·obtain rfl : j = m := by omega
      have HN : Hid (∀ i, i < (k + 1) → ∀ j, i < j → j < n → auPair (rs.getD j rep0) (rs.getD i rep0) = true) := fun i hi q h1 h2 => by
       by_cases e : i = k
       ·subst e; exact H1.out q h1 (by omega)
       ·exact H0.out i (by omega) q h1 h2
      have HB2 : Hid _ := below_next HB.out hc
      clear hc HB
      go_wp2
      go_roundw
      case rel => exact ⟨k + 1, by omega, rfl, by go_num, HN, HB2.out⟩
      case measure => simp [intOf]; omega
  ·obtain rfl : k = n := by omega
   have e : d = true := by rw [← HD.out]; exact auMatch_yes (fun i hi j hj => H0.out j (by rw [HL.out] at hi; omega) i hj (by rw [HL.out] at hi; exact hi))
   subst e
   have hbb := below_next HB0.out hb
   clear HD
   go_wp2
   rw [Exit.noGoto_ret]
   go_ret
   exact ⟨rfl, hbb⟩
theorem auGreatest_is {own : Bool} {lo hi : Nat} (N : Hd) (xs : List Nod) (w : World) (x : NAt w own lo hi N xs) (hn : N.2.1 ≤ 1048576) (d : Int) (hd : auG (xs.map (·.1)) = d) :
  Calls Tryz.prog 243 #[.slice N.1 N.2.1 N.2.2] w fun e w' => e = .returned (.int .i64 d) ∧ Below w.heap.size w w' := by
 obtain ⟨ao, n, cap⟩ := N
 simp only at hn ⊢
 have hl : (xs.map (·.1)).length = n := by simpa using x.len
 obtain ⟨rs, hrs⟩ : ∃ rs, (xs.map (·.1)) = rs := ⟨_, rfl⟩
 have HR : Hid (∀ (i : Nat) (a : Nod), xs[i]? = some a → rs.getD i rep0 = a.1) := fun i a e => by rw [← hrs]; exact mapD e
 unfold auG at hd
 rw [hrs] at hd hl
 rw [hl] at hd
 have HD : Hid _ := hd
 have Hx : Hid (NAt w own lo hi _ xs) := x
 clear hd hrs hl x
 go_enter Tryz.func243, Tryz.ntmps243
 go_wp2
 go_loopw [3, 8] (fun v i wr => ∃ (k : Nat) (g : Int), k ≤ n ∧ v = .int .i64 g ∧ i = .int .i64 k ∧ Hid (auGTo rs k = g) ∧ Below w.heap.size w wr) (fun _ i _ => n - (intOf i).toNat)
 case atStart => exact ⟨0, -1, Nat.zero_le _, rfl, rfl, rfl, Below.refl _ _⟩
 case round =>
  obtain ⟨k, g, hk, rfl, rfl, H0, hb⟩ := hrel
  by_cases hlt : k < n
  ·have hlk : (k : Int) < (n : Int) := by omega
   obtain ⟨r, h, b, off, ex, rfl, _, _, XN, y, _⟩ := LAt.node (NAt.below Hx.out hb) hlt
   have cN := XN.cell
   have HE : Hid (rs.getD k rep0 = r) := HR.out k _ ex
   clear ex y
   obtain ⟨nm, hnm⟩ : ∃ q, r.normal = q := ⟨_, rfl⟩
   have HNm : Hid _ := hnm
   rw [hnm] at cN
   clear XN hnm
   cases nm with
   | false =>
    go_wp2_with (first | ((with_reducible refine store_midX 65 X0 0 [.int .i64 r.id, .int .i64 r.size, .int .i64 r.view, .bool false, .int .i64 r.last, .slice h.L.1 h.L.2.1 h.L.2.2, .int .i64 r.commit, .slice h.O.1 h.O.2.1 h.O.2.2, .slice h.A.1 h.A.2.1 h.A.2.2, .slice h.D.1 h.D.2.1 h.D.2.2] (by simp) (by kernel_rfl) (by simp [Value.oneCell']) rfl rfl ?_); intro V1 S; replace X0 : Bx V1 b0 [.int .i64 r.id, .int .i64 r.size, .int .i64 r.view, .bool false, .int .i64 r.last, .slice h.L.1 h.L.2.1 h.L.2.2, .int .i64 r.commit, .slice h.O.1 h.O.2.1 h.O.2.2, .slice h.A.1 h.A.2.1 h.A.2.2, .slice h.D.1 h.D.2.1 h.D.2.2] := S.bx; replace c0 := X0.cell; replace f0 := X0.froz; replace B := bkp B S.kept; clear S) | ((with_reducible refine alloc_newX 65 [.int .i64 0, .int .i64 0, .int .i64 0, .bool false, .int .i64 0, .slice none 0 0, .int .i64 0, .slice none 0 0, .slice none 0 0, .slice none 0 0] (fun _ => by kernel_rfl) ?_); intro b0 W0 N0; have ob0 := N0.ge; have B := N0.below; have X0 := N0.bx; have c0 := X0.cell; have f0 := X0.froz; clear N0) | fail)
    clear cN
    have HN : Hid _ := auGTo_no HE.out HNm.out H0.out
    have HB : Hid _ := below_next hb B
    clear hb
    go_wp2
    go_roundw
    case rel => exact ⟨k + 1, _, by omega, rfl, by go_num, HN, HB.out⟩
    case measure => simp [intOf]; omega
   | true =>
    go_wp2_with (first | ((with_reducible refine store_midX 65 X0 0 [.int .i64 r.id, .int .i64 r.size, .int .i64 r.view, .bool true, .int .i64 r.last, .slice h.L.1 h.L.2.1 h.L.2.2, .int .i64 r.commit, .slice h.O.1 h.O.2.1 h.O.2.2, .slice h.A.1 h.A.2.1 h.A.2.2, .slice h.D.1 h.D.2.1 h.D.2.2] (by simp) (by kernel_rfl) (by simp [Value.oneCell']) rfl rfl ?_); intro V1 S; replace X0 : Bx V1 b0 [.int .i64 r.id, .int .i64 r.size, .int .i64 r.view, .bool true, .int .i64 r.last, .slice h.L.1 h.L.2.1 h.L.2.2, .int .i64 r.commit, .slice h.O.1 h.O.2.1 h.O.2.2, .slice h.A.1 h.A.2.1 h.A.2.2, .slice h.D.1 h.D.2.1 h.D.2.2] := S.bx; replace c0 := X0.cell; replace f0 := X0.froz; replace B := bkp B S.kept; clear S) | ((with_reducible refine alloc_newX 65 [.int .i64 0, .int .i64 0, .int .i64 0, .bool false, .int .i64 0, .slice none 0 0, .int .i64 0, .slice none 0 0, .slice none 0 0, .slice none 0 0] (fun _ => by kernel_rfl) ?_); intro b0 W0 N0; have ob0 := N0.ge; have B := N0.below; have X0 := N0.bx; have c0 := X0.cell; have f0 := X0.froz; clear N0) | fail)
    clear cN
    have em : max g r.view = (if g < r.view then r.view else g) := by split <;> omega
    have HN : Hid _ := (auGTo_yes HE.out HNm.out H0.out).trans em
    clear em
    have HB : Hid _ := below_next hb B
    clear hb
    go_wp2
    go_roundw
    case rel => exact ⟨k + 1, _, by omega, rfl, by go_num, HN, HB.out⟩
    case measure => simp [intOf]; omega
  ·obtain rfl : k = n := by omega
   have e : d = g := by rw [← HD.out]; exact H0.out
   subst e
   clear HD
   go_wp2
   go_ret
   exact ⟨rfl, hb⟩
theorem auHas1_is {own o2 : Bool} {lo hi l2 u2 : Nat} (g : Int) (r : Rep) (h : RH) (N M Sl : Hd) (es : List En) (b0 b1 : Nat) (w : World) (x : RepAt w own lo hi h r) (hs : 1 ≤ r.size ∧ r.size ≤ 5) (hv : 0 ≤ r.view ∧ r.view ≤ 300) (hz : Sl.2.1 ≤ 2097152) (X0 : Bx w b0 [.int .i64 g]) (X1 : Bx w b1 [.slice N.1 N.2.1 N.2.2, .slice M.1 M.2.1 M.2.2, .slice Sl.1 Sl.2.1 Sl.2.2]) (s : RowAt w o2 l2 u2 6 Sl.1 Sl.2.1 Sl.2.2 (sixs es)) :
  Calls Tryz.prog 244 #[.agg #[.int .i64 r.id, .int .i64 r.size, .int .i64 r.view, .bool r.normal, .int .i64 r.last, .slice h.L.1 h.L.2.1 h.L.2.2, .int .i64 r.commit, .slice h.O.1 h.O.2.1 h.O.2.2, .slice h.A.1 h.A.2.1 h.A.2.2, .slice h.D.1 h.D.2.1 h.D.2.2], .pointer (some ⟨b0, 0, none⟩), .pointer (some ⟨b1, 0, none⟩)] w fun e w' => e = .returned (.bool (auHas g es r)) ∧ Below w.heap.size w w' := by
 have hl := s.nSixs
 have xl := x.log
 obtain ⟨d3, hd3⟩ : ∃ q, decide (commN es r.log = Sl.2.1) = q := ⟨_, rfl⟩
 have HD3 : Hid _ := hd3
 have e : auHas g es r = ((!leadsB r || decide (r.view < g)) || d3) := by unfold auHas; rw [← hd3, hl]
 rw [e]
 obtain ⟨d1, hd1⟩ : ∃ q, leadsB r = q := ⟨_, rfl⟩
 have HD1 : Hid _ := hd1
 obtain ⟨d2, hd2⟩ : ∃ q, decide (r.view < g) = q := ⟨_, rfl⟩
 have HD2 : Hid _ := hd2
 rw [hd1, hd2]
 obtain ⟨dd, hdd⟩ : ∃ q, ((!d1 || d2) || d3) = q := ⟨_, rfl⟩
 have HDD : Hid _ := hdd
 rw [hdd]
 clear hd1 hd2 hd3 e x hl hdd
 have c0 := X0.cell
 have c1 := X1.cell
 have ob0 := X0.lt
 have ob1 := X1.lt
 go_enter Tryz.func244, Tryz.ntmps244
 go_wp2_with (first | ((have g := ob1); clear g; (with_reducible refine box_newX 65 [.int .i64 r.id, .int .i64 r.size, .int .i64 r.view, .bool r.normal, .int .i64 r.last, .slice h.L.1 h.L.2.1 h.L.2.2, .int .i64 r.commit, .slice h.O.1 h.O.2.1 h.O.2.2, .slice h.A.1 h.A.2.1 h.A.2.2, .slice h.D.1 h.D.2.1 h.D.2.2] rfl ?_); intro b2 W2 N2; have ob2 := N2.ge; have o0_b2 := ltl X0.lt N2.ge; have o1_b2 := ltl X1.lt N2.ge; replace X0 := X0.below N2.below; replace c0 := X0.cell; replace X1 := X1.below N2.below; replace c1 := X1.cell; have B := N2.below; have X2 := N2.bx; have c2 := X2.cell; clear N2) | fail)
 refine (leads_is' r h hs hv _ d1 HD1.out).mono ?_
 rintro e w1 ⟨rfl, BB⟩
 replace X0 := X0.below BB
 replace c0 := X0.cell
 replace X1 := X1.below BB
 replace c1 := X1.cell
 replace X2 := X2.below BB
 replace c2 := X2.cell
 replace B := below_next B BB
 clear BB
 cases d1 with
 | false =>
  obtain rfl : dd = true := by rw [← HDD.out]; rfl
  go_wp2
  go_ret
  exact ⟨rfl, B⟩
 | true =>
  cases d2 with
  | true =>
   have q0 : r.view < g := of_decide_eq_true HD2.out
   obtain rfl : dd = true := by rw [← HDD.out]; rfl
   go_wp2
   go_ret
   exact ⟨rfl, B⟩
  | false =>
   have q0 : ¬ r.view < g := of_decide_eq_false HD2.out
   obtain rfl : dd = d3 := by rw [← HDD.out]; rfl
   go_wp2_with fail
   refine (implIsB_is Sl.1 h.L.1 Sl.2.1 Sl.2.2 h.L.2.1 h.L.2.2 es r.log _ (s.below B) (xl.below B) hz _ HD3.out).mono ?_
   rintro e w2 ⟨rfl, BB⟩
   replace X0 := X0.below BB
   replace c0 := X0.cell
   replace X1 := X1.below BB
   replace c1 := X1.cell
   replace X2 := X2.below BB
   replace c2 := X2.cell
   replace B := below_next B BB
   clear BB
   go_wp2
   go_ret
   exact ⟨by show Ending.returned (Value.bool (decide (r.view < g) || dd)) = _; rw [HD2.out]; rfl, B⟩
theorem alloc_intX {P : Program} {ops : Array Oper} {rest : List Oper} {dst : Option Tmp} {type : TypeId} {pos : String} {after : Array Edge} {a : Act} {w : World} {Q : Exit → Act → World → Prop} {ty : TypeId} (hz : ∀ w, (zeroValue ty).run P w = .ok (.int .i64 0) w)
  (h : ∀ (b : Nat) (W : World), NewX w W b [.int .i64 0] → wpList P ops Q rest (a.put dst (.pointer (some ⟨b, 0, none⟩))) W) : wpList P ops Q (⟨dst, .alloc ty, type, pos, after, none⟩ :: rest) a w := by
 refine wpList_plain rfl fun K hK => ?_
 unfold Oper.wp execOp
 go_simp
 exact hK _ _ (h _ _ (by simpa using newX_mk w #[.int .i64 0] ty))
theorem auFirst_is {own : Bool} {lo hi : Nat} (N M Sl : Hd) (xs : List Nod) (ms : List Mal) (es : List En) (w : World) (x : ClAt w own lo hi N M Sl xs ms es) (hs : ClSz N M Sl xs ms 1048576) (hr : cluF (xs.map (·.1)) (ms.map (·.1)) es = 0) (d : Bool) (hd : (xs.map (·.1)).all (auHas (auG (xs.map (·.1))) es) = d) :
  Calls Tryz.prog 190 #[.agg #[.slice N.1 N.2.1 N.2.2, .slice M.1 M.2.1 M.2.2, .slice Sl.1 Sl.2.1 Sl.2.2]] w fun e w' => e = .returned (.bool d) ∧ Below w.heap.size w w' := by
 have HRt : Hid _ := auRight x hr
 have HD : Hid _ := hd
 have HS : Hid _ := hs
 have Hx : Hid _ := x
 have hmf : ∀ (fn : Fn) (first cap : Array Value) (w : World), (Instr.makeFunc fn first cap).run Tryz.prog w = .ok (.func fn first cap) w := fun _ _ _ _ => rfl
 clear hd hr hs x
 obtain ⟨gv, hgv⟩ : ∃ q, auG (xs.map (·.1)) = q := ⟨_, rfl⟩
 have HG : Hid _ := hgv
 rw [hgv] at HD
 clear hgv
 go_enter Tryz.func190, Tryz.ntmps190
 go_wp2_with (first | ((with_reducible refine box_newX 32 [.slice N.1 N.2.1 N.2.2, .slice M.1 M.2.1 M.2.2, .slice Sl.1 Sl.2.1 Sl.2.2] rfl ?_); intro b0 W0 N0; have ob0 := N0.ge; have B := N0.below; have X0 := N0.bx; have c0 := X0.cell; clear N0) | fail)
 refine (auGreatest_is N xs _ (Hx.out.nodes.below B) HS.out.n gv HG.out).mono ?_
 rintro e w1 ⟨rfl, BB⟩
 replace X0 := X0.below BB
 replace c0 := X0.cell
 replace B := below_next B BB
 clear BB
 go_wp2_with (first | ((with_reducible refine store_oneX 2 X1 0 (.int .i64 gv) (by simp) (by kernel_rfl) rfl rfl rfl ?_); intro V1 S; replace X0 := X0.kp S.kept; replace c0 := X0.cell; replace X1 : Bx V1 b1 [.int .i64 gv] := S.bx; replace c1 := X1.cell; replace f1 := X1.froz; replace B := bkp B S.kept; clear S) | ((have g := ob0); clear g; (with_reducible refine alloc_intX (fun _ => by kernel_rfl) ?_); intro b1 W1 N1; have ob1 := Nat.le_trans B.size N1.ge; have o0_b1 := ltl X0.lt N1.ge; replace X0 := X0.below N1.below; replace c0 := X0.cell; replace B := below_next B N1.below; have X1 := N1.bx; have c1 := X1.cell; have f1 := X1.froz; clear N1) | fail)
 have HX0 : Hid _ := X0
 have HX1 : Hid _ := X1
 refine (auEach2 244 (fun _ _ => rfl) b1 b0 N xs _ (Hx.out.nodes.below B) HS.out.n (auHas gv es) (fun W k r h hb ex y => auHas1_is gv r h N M Sl es b1 b0 W y (HRt.out.2 k r h ex).2.1 (HRt.out.2 k r h ex).2.2.1 (Nat.le_trans HS.out.s (by omega)) (HX1.out.below hb) (HX0.out.below hb) ((Hx.out.slog.below B).below hb)) d HD.out).mono ?_
 rintro e w2 ⟨rfl, BB⟩
 replace X0 := X0.below BB
 replace c0 := X0.cell
 replace X1 := X1.below BB
 replace c1 := X1.cell
 replace f1 := X1.froz
 replace B := below_next B BB
 clear BB
 go_wp2
 go_ret
 exact ⟨rfl, B⟩
end Go.Proofs.YtgldocaohcoleaaGreat

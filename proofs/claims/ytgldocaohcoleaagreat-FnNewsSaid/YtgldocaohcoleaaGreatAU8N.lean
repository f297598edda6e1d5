/- Chapter 13: SafeCluster of the program. -/
import Derived.Test.YtgldocaohcoleaaGreatQBCN
set_option maxRecDepth 20000
set_option maxHeartbeats 16000000
namespace Go.Proofs.YtgldocaohcoleaaGreat
open Go.RowKit
theorem auIsSafe_is {own : Bool} {lo hi : Nat} (N M Sl : Hd) (xs : List Nod) (ms : List Mal) (es : List En) (w : World) (x : ClAt w own lo hi N M Sl xs ms es) (hs : ClSz N M Sl xs ms 1048576) (hr : cluF (xs.map (·.1)) (ms.map (·.1)) es = 0) (d : Bool) (hd : (((xs.map (·.1)).all (auSeal es) && auMatch (xs.map (·.1))) && (xs.map (·.1)).all (auHas (auG (xs.map (·.1))) es)) = d) :
  Calls Tryz.prog 107 #[.agg #[.slice N.1 N.2.1 N.2.2, .slice M.1 M.2.1 M.2.2, .slice Sl.1 Sl.2.1 Sl.2.2]] w fun e w' => e = .returned (.bool d) ∧ Below w.heap.size w w' := by
 obtain ⟨e0, he0⟩ : ∃ q, (xs.map (·.1)).all (auSeal es) = q := ⟨_, rfl⟩
 have HE0 : Hid _ := he0
 obtain ⟨e1, he1⟩ : ∃ q, auMatch (xs.map (·.1)) = q := ⟨_, rfl⟩
 have HE1 : Hid _ := he1
 obtain ⟨e2, he2⟩ : ∃ q, (xs.map (·.1)).all (auHas (auG (xs.map (·.1))) es) = q := ⟨_, rfl⟩
 have HE2 : Hid _ := he2
 rw [he0, he1, he2] at hd
 have HD : Hid _ := hd
 clear hd he0 he1 he2
 go_enter Tryz.func107, Tryz.ntmps107
 go_wp2_with (first | ((with_reducible refine box_newX 32 [.slice N.1 N.2.1 N.2.2, .slice M.1 M.2.1 M.2.2, .slice Sl.1 Sl.2.1 Sl.2.2] rfl ?_); intro b0 W0 N0; have ob0 := N0.ge; have B := N0.below; have X0 := N0.bx; have c0 := X0.cell; clear N0) | fail)
 refine (auHaveSealed_is N M Sl xs ms es _ (x.below B) hs hr e0 HE0.out).mono ?_
 rintro e w1 ⟨rfl, BB⟩
 replace X0 := X0.below BB
 replace c0 := X0.cell
 replace B := below_next B BB
 clear BB
 cases e0 with
 | false =>
  obtain rfl : d = false := by rw [← HD.out]; rfl
  go_wp2
  go_ret
  exact ⟨rfl, B⟩
 | true =>
  go_wp2_with fail
  refine (auAgree_is N M Sl xs ms es _ (x.below B) hs hr e1 HE1.out).mono ?_
  rintro e w2 ⟨rfl, BB⟩
  replace X0 := X0.below BB
  replace c0 := X0.cell
  replace B := below_next B BB
  clear BB
  cases e1 with
  | false =>
   obtain rfl : d = false := by rw [← HD.out]; rfl
   go_wp2
   go_ret
   exact ⟨rfl, B⟩
  | true =>
   go_wp2_with fail
   refine (auFirst_is N M Sl xs ms es _ (x.below B) hs hr e2 HE2.out).mono ?_
   rintro e w3 ⟨rfl, BB⟩
   replace X0 := X0.below BB
   replace c0 := X0.cell
   replace B := below_next B BB
   clear BB
   cases e2 with
   | false =>
    obtain rfl : d = false := by rw [← HD.out]; rfl
    go_wp2
    go_ret
    exact ⟨rfl, B⟩
   | true =>
    obtain rfl : d = true := by rw [← HD.out]; rfl
    go_wp2
    go_ret
    exact ⟨rfl, B⟩
theorem auSC_is {own : Bool} {lo hi : Nat} (N M Sl : Hd) (xs : List Nod) (ms : List Mal) (es : List En) (w : World) (x : ClAt w own lo hi N M Sl xs ms es) (hs : ClSz N M Sl xs ms 1048576) (d : Bool) (hd : (decide (cluF (xs.map (·.1)) (ms.map (·.1)) es = 0) && (((xs.map (·.1)).all (auSeal es) && auMatch (xs.map (·.1))) && (xs.map (·.1)).all (auHas (auG (xs.map (·.1))) es))) = d) :
  Calls Tryz.prog 39 #[.agg #[.slice N.1 N.2.1 N.2.2, .slice M.1 M.2.1 M.2.2, .slice Sl.1 Sl.2.1 Sl.2.2]] w fun e w' => e = .returned (.bool d) ∧ Below w.heap.size w w' := by
 have HD : Hid _ := hd
 have HS : Hid _ := hs
 have Hx : Hid _ := x
 clear hd hs x
 go_enter Tryz.func39, Tryz.ntmps39
 go_wp2_with (first | ((with_reducible refine box_newX 32 [.slice N.1 N.2.1 N.2.2, .slice M.1 M.2.1 M.2.2, .slice Sl.1 Sl.2.1 Sl.2.2] rfl ?_); intro b0 W0 N0; have ob0 := N0.ge; have B := N0.below; have X0 := N0.bx; have c0 := X0.cell; clear N0) | fail)
 refine (auHolds 107 (fun _ _ => rfl) N M Sl xs ms es _ (Hx.out.below B) HS.out _ (fun W hb hr => auIsSafe_is N M Sl xs ms es W ((Hx.out.below B).below hb) HS.out hr _ rfl) d HD.out).mono ?_
 rintro e w1 ⟨rfl, BB⟩
 replace X0 := X0.below BB
 replace c0 := X0.cell
 replace B := below_next B BB
 clear BB
 go_wp2
 go_ret
 exact ⟨rfl, B⟩
end Go.Proofs.YtgldocaohcoleaaGreat

/- Chapter 2: facts of a journal, and the program's answers by what they are told to be. -/
import Derived.Test.YtkpbmffklcgecaaM2
import Derived.Test.YtkpbmffklcgecaaK7
import Derived.Test.YtkpbmffklcgecaaE3
import Derived.Test.YtkpbmffklcgecaaFacts2
namespace Go.Proofs.Ytkpbmffklcgecaa
open Go.RowKit

/-- what holds where a record was appended -/
structure Appended (xs : List Int) (ys : List (Int × Int)) (ws : List Int) (rs : List (List Int)) (uu : Nat) (zs : List Int) : Prop where
  f0 : faultOf xs ys = 0
  rf : recFault ws = 0
  X : appX xs ys ws = xs
  f1 : faultOf xs (appY xs ys ws) = 0
  r0 : scanRecs xs ys = rs
  u0 : scanUsed xs ys = uu
  r1 : scanRecs xs (appY xs ys ws) = rs ++ [ws]
  u1 : scanUsed xs (appY xs ys ws) = uu + 2 + ws.length
  fl : flushRes xs (appY xs ys ws) = zs
  f2 : faultOf zs [] = 0
  r2 : recsOf zs [] = rs ++ [ws]
  u2 : usedOf zs [] = uu + 2 + ws.length
theorem appended {xs : List Int} {ys : List (Int × Int)} {ws : List Int} (h : appCode xs ys ws = 0) : Appended xs ys ws (recsOf xs ys) (usedOf xs ys) (putAll xs (appY xs ys ws)) := by
  obtain ⟨hf, hr, _, _⟩ := app_zero h
  have h1 := app_fault h
  have hs := app_scan h
  have e : putAll (putAll xs (appY xs ys ws)) [] = putAll xs (appY xs ys ws) := rfl
  refine ⟨hf, hr, (app_lists h).1, h1, if_pos hf, if_pos hf, ?_, ?_, if_pos h1, flush_fault h1, ?_, ?_⟩
  · rw [scanRecs, if_pos h1, recsOf, hs]
  · rw [scanUsed, if_pos h1, usedOf, hs]
  · rw [recsOf, e, hs]
  · rw [usedOf, e, hs]
theorem app_again {zs ws : List Int} (hf : faultOf zs [] = 0) (hr : recFault ws = 0) (h : appCode zs [] ws ≠ 0) : appCode zs [] ws = 8 := by
  rw [appCode, if_pos hf, if_pos hr] at h ⊢
  split
  · rfl
  · rename_i hh; rw [if_neg hh] at h; exact absurd rfl h
theorem app_room {zs ws : List Int} (h : appCode zs [] ws = 0) : (ws.length : Int) ≤ roomOf zs [] := by
  obtain ⟨hf, _, hu, _⟩ := app_zero h
  rw [roomOf, if_pos hf]
  omega
theorem app_back {zs ws : List Int} (h : appCode zs [] ws = 0) (bs : List Bool) : appX zs [] ws = zs ∧ faultOf zs (appY zs [] ws) = 0 ∧ crashRes zs (appY zs [] ws) bs = putAll zs (picked (appY zs [] ws) bs) ∧ faultOf (putAll zs (picked (appY zs [] ws) bs)) [] = 0 ∧ ∃ more, scanRecs (putAll zs (picked (appY zs [] ws) bs)) [] = recsOf zs [] ++ more := by
  have h1 := app_fault h
  have h2 := crash_fault h1 bs
  obtain ⟨more, hm⟩ := app_crash h bs
  refine ⟨(app_lists h).1, h1, if_pos h1, h2, more, ?_⟩
  rw [scanRecs, if_pos h2]
  exact hm

section
variable {o0 o1 o2 : Bool} {l0 u0 l1 u1 l2 u2 : Nat} (a0 a1 : Option Addr) (n0 c0 n1 c1 : Nat) (xs : List Int) (ys : List (Int × Int)) (w : World) (h0 : RowAt w o0 l0 u0 1 a0 n0 c0 (ints xs)) (h1 : RowAt w o1 l1 u1 2 a1 n1 c1 (pairs ys))
include h0 h1
theorem implScan_n (hn : n0 ≤ 1048576) (hm : n1 ≤ 1048576) (cd : Int) (uu : Nat) (rs : List (List Int)) (n : Nat) (hc : faultOf xs ys = cd) (hu : scanUsed xs ys = uu) (hr : scanRecs xs ys = rs) (hl : rs.length = n) :
    Calls Try.prog 53 #[.agg #[.slice a0 n0 c0, .slice a1 n1 c1]] w fun e w' => ∃ a c vs, e = .returned (.agg #[.int .i64 cd, .int .i64 (uu : Int), .slice a n c]) ∧ RowAt w' true w.heap.size w'.heap.size 1 a n c vs ∧ RecsIn w' w.heap.size w'.heap.size vs rs ∧ Below w.heap.size w w' := by
  refine (implScan_is a0 a1 n0 c0 n1 c1 xs ys w h0 h1 (by omega) (by omega) cd uu rs hc hu hr).mono ?_
  rintro e w' ⟨a, c, vs, rfl, O, _, hb⟩
  obtain ⟨_, _, e0, R⟩ := RowAt.of_owned O.own
  cases e0
  rw [hl] at R ⊢
  exact ⟨_, _, vs, rfl, R, O.but.at.into, hb⟩
theorem implApp_is (hn : n0 ≤ 1048576) (hm : n1 ≤ 1048576) (a2 : Option Addr) (n2 c2 : Nat) (ws : List Int) (h2 : RowAt w o2 l2 u2 1 a2 n2 c2 (ints ws)) (hq : n2 ≤ 1048576) (k : Int) (X : List Int) (Y : List (Int × Int)) (hk : appCode xs ys ws = k) (hX : appX xs ys ws = X) (hY : appY xs ys ws = Y) :
    Calls Try.prog 54 #[.agg #[.slice a0 n0 c0, .slice a1 n1 c1], .slice a2 n2 c2] w fun e w' => DiskRes w w' e k X Y := by
  subst hk; subst hX; subst hY; exact implApp_any a0 a1 n0 c0 n1 c1 xs ys a2 n2 c2 ws w h0 h1 h2 hn hm hq
theorem specApp_is (hn : n0 ≤ 1048576) (hm : n1 ≤ 1048576) (a2 : Option Addr) (n2 c2 : Nat) (ws : List Int) (h2 : RowAt w o2 l2 u2 1 a2 n2 c2 (ints ws)) (hq : n2 ≤ 1048576) (k : Int) (X : List Int) (Y : List (Int × Int)) (hk : appCode xs ys ws = k) (hX : appX xs ys ws = X) (hY : appY xs ys ws = Y) :
    Calls Try.prog 55 #[.agg #[.slice a0 n0 c0, .slice a1 n1 c1], .slice a2 n2 c2] w fun e w' => DiskRes w w' e k X Y := by
  subst hk; subst hX; subst hY; exact specApp_any a0 a1 n0 c0 n1 c1 xs ys a2 n2 c2 ws w h0 h1 h2 hn hm hq
theorem implCommit_is (hn : n0 ≤ 2097152) (hm : n1 ≤ 2097152) (f : Int) (rs : List Int) (hf : faultOf xs ys = f) (hr : flushRes xs ys = rs) :
    Calls Try.prog 57 #[.agg #[.slice a0 n0 c0, .slice a1 n1 c1]] w fun e w' => DiskRes w w' e f rs [] := by
  subst hf; subst hr; exact implCommit_any a0 a1 n0 c0 n1 c1 xs ys w h0 h1 hn hm
theorem implCrash_is (hn : n0 ≤ 2097152) (hm : n1 ≤ 2097152) (a2 : Option Addr) (n2 c2 : Nat) (bs : List Bool) (h2 : RowAt w o2 l2 u2 1 a2 n2 c2 (bls bs)) (hq : n2 ≤ 2097152) (f : Int) (rs : List Int) (hf : faultOf xs ys = f) (hr : crashRes xs ys bs = rs) :
    Calls Try.prog 20 #[.agg #[.slice a0 n0 c0, .slice a1 n1 c1], .slice a2 n2 c2] w fun e w' => DiskRes w w' e f rs [] := by
  subst hf; subst hr; exact implCrash_any a0 a1 n0 c0 n1 c1 xs ys a2 n2 c2 bs w h0 h1 h2 hn hm hq
theorem implRoom_is (hn : n0 ≤ 2097152) (hm : n1 ≤ 2097152) (f v : Int) (hf : faultOf xs ys = f) (hr : roomOf xs ys = v) :
    Calls Try.prog 59 #[.agg #[.slice a0 n0 c0, .slice a1 n1 c1]] w fun e w' => e = .returned (.agg #[.int .i64 f, .int .i64 v]) ∧ Below w.heap.size w w' := by
  subst hf; subst hr; exact implRoom_any a0 a1 n0 c0 n1 c1 xs ys w h0 h1 hn hm
end
theorem nresField (c v : Int) (w : World) : (Instr.field 43 (.agg #[.int .i64 c, .int .i64 v]) 1).run Try.prog w = .ok (.int .i64 v) w := by kernel_rfl
theorem dresCode (c : Int) (b0 : Option Addr) (m0 d0 : Nat) (b1 : Option Addr) (m1 d1 : Nat) (w : World) : (Instr.field 32 (.agg #[.int .i64 c, .slice b0 m0 d0, .slice b1 m1 d1]) 0).run Try.prog w = .ok (.int .i64 c) w := by kernel_rfl
theorem diskLen {w : World} {lo hi : Nat} {a0 : Option Addr} {n0 c0 : Nat} {a1 : Option Addr} {n1 c1 : Nat} {xs : List Int} {ys : List (Int × Int)} (h : DiskAt w lo hi a0 n0 c0 a1 n1 c1 xs ys) : xs.length = n0 ∧ ys.length = n1 := by
  obtain ⟨_, _, _, t0, t1⟩ := h.parts
  exact ⟨t0.nInts, t1.nPairs⟩

end Go.Proofs.Ytkpbmffklcgecaa

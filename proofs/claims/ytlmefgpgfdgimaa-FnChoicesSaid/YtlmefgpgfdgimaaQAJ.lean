/- Chapter 9: entries and bools marked and held by the laws. -/
import Derived.Test.YtlmefgpgfdgimaaQAH
set_option maxRecDepth 20000
set_option maxHeartbeats 16000000
namespace Go.Proofs.Ytlmefgpgfdgimaa
open Go.RowKit
def mark6 (k : Int) (j : Nat) : En := (k + 6 * (j : Int), k + 6 * (j : Int) + 1, k + 6 * (j : Int) + 2, k + 6 * (j : Int) + 3, k + 6 * (j : Int) + 4, k + 6 * (j : Int) + 5)
def marks6 (k : Int) (n : Nat) : List En := (List.range n).map (mark6 k)
def kE (t : Int) (K : Nat → Hd) (k : Int) : Nat → Int
 | 0 => k
 | i + 1 => kE t K k i + t + 6 * ((K i).2.1 : Int)
def paM (t base : Int) (K : Nat → Hd) (k : Int) (L : Nat → List En) (i0 a : Nat) : List En := if a < i0 then marks6 (kE t K k a + base) (K a).2.1 else L a
def mkDF (K : Nat → Hd) (k : Int) (i c : Nat) : Value := [.bool ((kE 3 K k i) % 3 == 0), .int .i64 (kE 3 K k i + 1), hv (K i), .int .i64 (kE 3 K k i + 2 + 6 * ((K i).2.1 : Int))].getD c default
def mkMF (K : Nat → Hd) (k : Int) (i c : Nat) : Value := [.int .i64 (kE 14 K k i), .int .i64 (kE 14 K k i + 1), .int .i64 (kE 14 K k i + 2), .int .i64 (kE 14 K k i + 3), .int .i64 (kE 14 K k i + 4), .bool ((kE 14 K k i + 5) % 3 == 0), .int .i64 (kE 14 K k i + 6), .int .i64 (kE 14 K k i + 7), .int .i64 (kE 14 K k i + 8), .int .i64 (kE 14 K k i + 9), .int .i64 (kE 14 K k i + 10), .int .i64 (kE 14 K k i + 11), .int .i64 (kE 14 K k i + 12), hv (K i), .int .i64 (kE 14 K k i + 13 + 6 * ((K i).2.1 : Int))].getD c default
def marksB (k : Int) (n : Nat) : List Bool := (List.range n).map fun j : Nat => (k + (j : Int)) % 3 == 0
def mkO (h : RH) (k : Int) : Int := k + 6 * (h.L.2.1 : Int)
def mkA (h : RH) (k : Int) : Int := mkO h k + h.O.2.1
def mkD (h : RH) (k : Int) : Int := mkA h k + h.A.2.1
def mkEnd (h : RH) (k : Int) : Int := kE 3 h.K (mkD h k) h.D.2.1
structure MarkAt (w : World) (o : Bool) (lo hi : Nat) (h : RH) (k : Int) : Prop where
 log : RowAt w o lo hi 6 h.L.1 h.L.2.1 h.L.2.2 (sixs (marks6 k h.L.2.1))
 oks : RowAt w o lo hi 1 h.O.1 h.O.2.1 h.O.2.2 (ints (marks (mkO h k) h.O.2.1))
 asks : RowAt w o lo hi 1 h.A.1 h.A.2.1 h.A.2.2 (bls (marksB (mkA h k) h.A.2.1))
 doers : ElsAt 4 w o lo hi h.D.1 h.D.2.1 h.D.2.2 (mkDF h.K (mkD h k)) h.K (paM 3 2 h.K (mkD h k) (fun _ => []) h.D.2.1)
structure AnsAt (w : World) (own : Bool) (lo hi : Nat) (h : RH) (s : Hd) (Km : Nat → Hd) (r : Rep) (ms : List Ml) : Prop where
 rep : RepAt w own lo hi h r
 send : MailsAt w own lo hi s.1 s.2.1 s.2.2 Km ms
 sep : own = true → Sep (inRep h) (inE s.1 s.2.1 Km)
structure ASz (h : RH) (s : Hd) (Km : Nat → Hd) (m : Nat) : Prop where
 rep : RSz h m
 n : s.2.1 ≤ m
 K : ∀ i, i < s.2.1 → (Km i).2.1 ≤ m
def inAns (h : RH) (s : Hd) (Km : Nat → Hd) (k : Nat) : Prop := inRep h k ∨ inE s.1 s.2.1 Km k
section
variable {w w' : World} {own : Bool} {lo hi : Nat} {h : RH} {s : Hd} {Km : Nat → Hd} {r : Rep} {ms : List Ml}
end
structure MAns (w : World) (o : Bool) (lo hi : Nat) (h : RH) (s : Hd) (Km : Nat → Hd) : Prop where
 rep : MarkAt w o lo hi h 1
 send : ElsAt 15 w o lo hi s.1 s.2.1 s.2.2 (mkMF Km (mkEnd h 1)) Km (paM 14 13 Km (mkEnd h 1) (fun _ => []) s.2.1)
structure PlAt (w : World) (o : Bool) (lo hi : Nat) (av : Option Addr) (nv cv : Nat) (ac : Option Addr) (nc cc : Nat) (ah : Option Addr) (nh ch : Nat) (vs ce : List Vo) (sh : List Int) : Prop where
 vol : RowAt w o lo hi 3 av nv cv (trips vs)
 cel : RowAt w o lo hi 3 ac nc cc (trips ce)
 sha : RowAt w o lo hi 1 ah nh ch (ints sh)
structure SetC (w W : World) (b k : Nat) (v : Value) : Prop where
 kept : Kept b (b + 1) w W
 cell : W.cell? ⟨b, k, none⟩ = some v
 fr : ∀ {q i : Nat}, w.frozen? ⟨q, i, none⟩ = false → W.frozen? ⟨q, i, none⟩ = false
 oth : ∀ {q i : Nat} {u : Value}, w.cell? ⟨q, i, none⟩ = some u → (q ≠ b ∨ i ≠ k) → W.cell? ⟨q, i, none⟩ = some u
def cmpI (a b : Int) : Int := if a < b then -1 else if b < a then 1 else 0
theorem cmpI_is (a b : Int) : (cmpI a b = -1 ∧ a < b) ∨ (cmpI a b = 0 ∧ a = b) ∨ (cmpI a b = 1 ∧ b < a) := by
 unfold cmpI
 split
 ·exact Or.inl ⟨rfl, by assumption⟩
 ·split
  ·exact Or.inr (Or.inr ⟨rfl, by assumption⟩)
  ·exact Or.inr (Or.inl ⟨rfl, by omega⟩)
theorem isNaN64_is (x : Int) (w : World) : Calls Try.prog 73 #[.int .i64 x] w fun e w' => e = .returned (.bool false) ∧ w' = w := by
 have hx : (x != x) = false := by simp
 go_enter Try.func73, Try.ntmps73
 go_wp2
 go_ret
 exact ⟨rfl, rfl⟩
theorem cmp64_is (a b : Int) (w : World) (d : Int) (hd : cmpI a b = d) : Calls Try.prog 66 #[.int .i64 a, .int .i64 b] w fun e w' => e = .returned (.int .i64 d) ∧ w' = w := by
 have HD : Hid _ := hd
 clear hd
 go_enter Try.func66, Try.ntmps66
 go_wp2_with fail
 refine (isNaN64_is a _).mono ?_
 rintro e _ ⟨rfl, rfl⟩
 go_wp2_with fail
 refine (isNaN64_is b _).mono ?_
 rintro e _ ⟨rfl, rfl⟩
 rcases cmpI_is a b with ⟨e, h⟩ | ⟨e, h⟩ | ⟨e, h⟩
 ·have HE : Hid _ := e
  clear e
  go_wp2
  go_ret
  exact ⟨ret_int (by rw [← HD.out, HE.out]), rfl⟩
 ·have HE : Hid _ := e
  clear e
  have h1 : ¬ a < b := by omega
  have h2 : ¬ b < a := by omega
  clear h
  go_wp2
  go_ret
  exact ⟨ret_int (by rw [← HD.out, HE.out]), rfl⟩
 ·have HE : Hid _ := e
  clear e
  have h1 : ¬ a < b := by omega
  go_wp2
  go_ret
  exact ⟨ret_int (by rw [← HD.out, HE.out]), rfl⟩
theorem or2_is (x y : Int) (b : Nat) (w : World) (h0 : w.cell? ⟨b, 0, none⟩ = some (.int .i64 x)) (h1 : w.cell? ⟨b, 1, none⟩ = some (.int .i64 y)) (d : Int) (hd : (if x = 0 then y else x) = d) : Calls Try.prog 65 #[.slice (some ⟨b, 0, none⟩) 2 2] w fun e w' => e = .returned (.int .i64 d) ∧ w' = w := by
 have HD : Hid _ := hd
 clear hd
 go_enter Try.func65, Try.ntmps65
 go_wp2
 go_loopw [8] (fun i wr => ∃ k : Nat, k ≤ 2 ∧ i = .int .i64 k ∧ wr = w ∧ (1 ≤ k → x = 0) ∧ (2 ≤ k → y = 0)) (fun i _ => 2 - (intOf i).toNat)
 case atStart => exact ⟨0, by omega, rfl, rfl, fun h => by omega, fun h => by omega⟩
 case round =>
  obtain ⟨k, hk, rfl, rfl, ha, hb⟩ := hrel
  have HA : Hid _ := ha
  have HB : Hid _ := hb
  clear ha hb
  by_cases hk0 : k = 0
  ·subst hk0
   by_cases hx : x = 0
   ·have hn : (x != 0) = false := by simp [hx]
    have HX : Hid _ := hx
    clear hx
    go_wp2
    go_roundw
    case rel => exact ⟨1, by omega, by go_num, by first | rfl | trivial, fun _ => HX.out, fun h => by omega⟩
    case measure => simp [intOf]
   ·have hn : (x != 0) = true := by simp [hx]
    have HX : Hid _ := hx
    clear hx
    go_wp2
    go_ret
    exact ⟨ret_int (by rw [← HD.out, if_neg HX.out]), rfl⟩
  ·by_cases hk1 : k = 1
   ·subst hk1
    by_cases hx : y = 0
    ·have hn : (y != 0) = false := by simp [hx]
     have HX : Hid _ := hx
     clear hx
     go_wp2
     go_roundw
     case rel => exact ⟨2, by omega, by go_num, by first | rfl | trivial, fun _ => HA.out (by omega), fun h => HX.out⟩
     case measure => simp [intOf]
    ·have hn : (y != 0) = true := by simp [hx]
     have HX : Hid _ := hx
     clear hx
     go_wp2
     go_ret
     exact ⟨ret_int (by rw [← HD.out, if_pos (HA.out (by omega))]), rfl⟩
   ·obtain rfl : k = 2 := by omega
    go_wp2
    go_ret
    exact ⟨ret_int (by rw [← HD.out, if_pos (HA.out (by omega)), HB.out (by omega)]), rfl⟩
def sumStep (h x : Int) : Int := (h * 263 + x % 65521 + 1) % 65521
def sumOf (xs : List Int) : Int := xs.foldl sumStep 9
def recAt (ws : List Int) (at' k : Nat) : Option (List Int) :=
 if at' + 2 < ws.length ∧ 1 ≤ ws.getD at' 0 ∧ ws.getD at' 0 ≤ 8 ∧ at' + 2 + (ws.getD at' 0).toNat ≤ ws.length ∧ ws.getD (at' + 1) 0 = sumOf ((k : Int) :: (ws.drop (at' + 2)).take (ws.getD at' 0).toNat)
 then some ((ws.drop (at' + 2)).take (ws.getD at' 0).toNat) else none
def lay : Nat → List (List Int) → List Int
 | _, [] => []
 | k, r :: rs => (r.length : Int) :: sumOf ((k : Int) :: r) :: (r ++ lay (k + 1) rs)
def okRec (r : List Int) : Prop := 1 ≤ r.length ∧ r.length ≤ 8
def Scanned (ws : List Int) (a : Nat) (out : List (List Int)) : Prop := ws.take a = lay 0 out ∧ a ≤ ws.length ∧ ∀ r ∈ out, okRec r
structure RecsAt (w : World) (lo : Nat) (vs : List Value) (rs : List (List Int)) : Prop where
 len : vs.length = rs.length
 each : ∀ i, i < rs.length → ∃ (a : Option Addr) (n c l u : Nat), vs.getD i default = .slice a n c ∧ lo ≤ l ∧ u ≤ w.heap.size ∧ RowAt w true l u 1 a n c (ints (rs.getD i []))
structure RecsBut (w : World) (lo : Nat) (b : Option Nat) (vs : List Value) (rs : List (List Int)) : Prop where
 len : vs.length = rs.length
 each : ∀ i, i < rs.length → ∃ (g n c : Nat), vs.getD i default = .slice (some ⟨g, 0, none⟩) n c ∧ b ≠ some g ∧ lo ≤ g ∧ g < w.heap.size ∧ RowAt w true g (g + 1) 1 (some ⟨g, 0, none⟩) n c (ints (rs.getD i []))
structure Told (w : World) (pb : Nat) (n : Nat) (xs : List Int) : Prop where
 lt : pb < w.heap.size
 ok : ∃ v, w.cell? ⟨pb, 0, none⟩ = some v ∧ w.ownsRow (pb + 1) 2 1 v n (ints xs)
 fr : w.frozen? ⟨pb, 0, none⟩ = false
end Go.Proofs.Ytlmefgpgfdgimaa

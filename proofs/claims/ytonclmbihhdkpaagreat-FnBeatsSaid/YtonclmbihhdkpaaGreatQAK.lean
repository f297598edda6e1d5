/- Chapter 9: mails marked by the laws: plain. -/
import Derived.Test.YtonclmbihhdkpaaGreatQAF
import Derived.Test.YtonclmbihhdkpaaGreatQAB
import Derived.Test.YtonclmbihhdkpaaGreatQAG
import Derived.Test.YtonclmbihhdkpaaGreatWH
import Derived.Test.YtonclmbihhdkpaaGreatWC
set_option maxRecDepth 20000
set_option maxHeartbeats 16000000
namespace Go.Proofs.YtonclmbihhdkpaaGreat
open Go.RowKit
def mkMF (K : Nat → Hd) (k : Int) (i c : Nat) : Value := [.int .i64 (kE 14 K k i), .int .i64 (kE 14 K k i + 1), .int .i64 (kE 14 K k i + 2), .int .i64 (kE 14 K k i + 3), .int .i64 (kE 14 K k i + 4), .bool ((kE 14 K k i + 5) % 3 == 0), .int .i64 (kE 14 K k i + 6), .int .i64 (kE 14 K k i + 7), .int .i64 (kE 14 K k i + 8), .int .i64 (kE 14 K k i + 9), .int .i64 (kE 14 K k i + 10), .int .i64 (kE 14 K k i + 11), .int .i64 (kE 14 K k i + 12), hv (K i), .int .i64 (kE 14 K k i + 13 + 6 * ((K i).2.1 : Int))].getD c default
def marksB (k : Int) (n : Nat) : List Bool := (List.range n).map fun j : Nat => (k + (j : Int)) % 3 == 0
theorem RowAt.nBls {w : World} {own : Bool} {lo hi : Nat} {ao : Option Addr} {n cap : Nat} {bs : List Bool} (h : RowAt w own lo hi 1 ao n cap (bls bs)) : bs.length = n := by have := h.len; rw [bls_length] at this; omega
def mkO (h : RH) (k : Int) : Int := k + 6 * (h.L.2.1 : Int)
def mkA (h : RH) (k : Int) : Int := mkO h k + h.O.2.1
def mkD (h : RH) (k : Int) : Int := mkA h k + h.A.2.1
def mkEnd (h : RH) (k : Int) : Int := kE 3 h.K (mkD h k) h.D.2.1
structure MarkAt (w : World) (o : Bool) (lo hi : Nat) (h : RH) (k : Int) : Prop where
 log : RowAt w o lo hi 6 h.L.1 h.L.2.1 h.L.2.2 (sixs (marks6 k h.L.2.1))
 oks : RowAt w o lo hi 1 h.O.1 h.O.2.1 h.O.2.2 (ints (marks (mkO h k) h.O.2.1))
 asks : RowAt w o lo hi 1 h.A.1 h.A.2.1 h.A.2.2 (bls (marksB (mkA h k) h.A.2.1))
 doers : ElsAt 4 w o lo hi h.D.1 h.D.2.1 h.D.2.2 (mkDF h.K (mkD h k)) h.K (paM 3 2 h.K (mkD h k) (fun _ => []) h.D.2.1)
theorem MailsAt.mailC {w : World} {own : Bool} {lo hi : Nat} {ao : Option Addr} {n cap : Nat} {K : Nat → Hd} {ms : List Ml} (h : MailsAt w own lo hi ao n cap K ms) {i : Nat} (hi' : i < n) :
  ∃ b off, ao = some ⟨b, off, none⟩ ∧ lo ≤ b ∧ b < hi ∧ b < w.heap.size ∧ (∀ j, j < 15 → w.cell? ⟨b, off + i * 15 + j, none⟩ = (mlV (K i) (ms.getD i ml0))[j]?) ∧ RowAt w own lo hi 6 (K i).1 (K i).2.1 (K i).2.2 (sixs (ms.getD i ml0).log) := by
 obtain ⟨b, off, e, h1, h2, h3, hc, _⟩ := h.els.el hi' (by omega)
 refine ⟨b, off, e, h1, h2, h3, fun j hj => ?_, h.els.logs i hi'⟩
 have := hc j hj
 rw [← Nat.add_assoc] at this
 rw [this, mlF, List.getD_eq_getElem?_getD, List.getElem?_eq_getElem (by simpa [mlV] using hj)]
 rfl
structure AnsAt (w : World) (own : Bool) (lo hi : Nat) (h : RH) (s : Hd) (Km : Nat → Hd) (r : Rep) (ms : List Ml) : Prop where
 rep : RepAt w own lo hi h r
 send : MailsAt w own lo hi s.1 s.2.1 s.2.2 Km ms
 sep : own = true → Sep (inRep h) (inE s.1 s.2.1 Km)
structure ASz (h : RH) (s : Hd) (Km : Nat → Hd) (m : Nat) : Prop where
 rep : RSz h m
 n : s.2.1 ≤ m
 K : ∀ i, i < s.2.1 → (Km i).2.1 ≤ m
def inAns (h : RH) (s : Hd) (Km : Nat → Hd) (k : Nat) : Prop := inRep h k ∨ inE s.1 s.2.1 Km k
section
variable {w w' : World} {own : Bool} {lo hi : Nat} {h : RH} {s : Hd} {Km : Nat → Hd} {r : Rep} {ms : List Ml}
theorem AnsAt.below (x : AnsAt w own lo hi h s Km r ms) (hb : Below w.heap.size w w') : AnsAt w' own lo hi h s Km r ms := ⟨x.rep.below hb, x.send.below hb, x.sep⟩
theorem AnsAt.kept (x : AnsAt w own lo hi h s Km r ms) {l u : Nat} (hk : Kept l u w w') (hd : hi ≤ l ∨ u ≤ lo) : AnsAt w' own lo hi h s Km r ms := ⟨x.rep.kept hk hd, x.send.kept hk hd, x.sep⟩
theorem AnsAt.bare (x : RepAt w own lo hi h r) (a : Option Addr) (c : Nat) : AnsAt w own lo hi h (a, 0, c) Km r [] :=
 ⟨x, ⟨rfl, ElsAt.nil _ _ _ _ _ _ _ _ _ _⟩, fun _ k _ h2 => by rcases h2 with ⟨h0, _⟩ | ⟨i, hi, _⟩; exact h0 rfl; exact absurd hi (Nat.not_lt_zero _)⟩
theorem ASz.bare {m : Nat} (x : RSz h m) (a : Option Addr) (c : Nat) : ASz h (a, 0, c) Km m := ⟨x, Nat.zero_le _, fun _ hi => absurd hi (Nat.not_lt_zero _)⟩
theorem AnsAt.none (w : World) (own : Bool) (lo hi : Nat) : AnsAt w own lo hi ⟨(none, 0, 0), (none, 0, 0), (none, 0, 0), (none, 0, 0), fun _ => (none, 0, 0)⟩ (none, 0, 0) (fun _ => (none, 0, 0)) rep0 [] :=
 AnsAt.bare ⟨RowAt.nilR _ _ _ _ _ _ _, RowAt.nilR _ _ _ _ _ _ _, RowAt.nilR _ _ _ _ _ _ _, ⟨rfl, ElsAt.nil _ _ _ _ _ _ _ _ _ _⟩, fun _ => ⟨fun _ a => absurd rfl a.1, fun _ a => absurd rfl a.1, fun _ a => absurd rfl a.1, fun _ a => absurd rfl a.1, fun _ a => absurd rfl a.1, fun _ a => absurd rfl a.1⟩⟩ _ _
theorem ASz.none (m : Nat) : ASz ⟨((none : Option Addr), 0, 0), (none, 0, 0), (none, 0, 0), (none, 0, 0), fun _ => (none, 0, 0)⟩ (none, 0, 0) (fun _ => (none, 0, 0)) m :=
 ASz.bare ⟨Nat.zero_le _, Nat.zero_le _, Nat.zero_le _, Nat.zero_le _, fun _ hi => absurd hi (Nat.not_lt_zero _)⟩ _ _
end
structure MAns (w : World) (o : Bool) (lo hi : Nat) (h : RH) (s : Hd) (Km : Nat → Hd) : Prop where
 rep : MarkAt w o lo hi h 1
 send : ElsAt 15 w o lo hi s.1 s.2.1 s.2.2 (mkMF Km (mkEnd h 1)) Km (paM 14 13 Km (mkEnd h 1) (fun _ => []) s.2.1)
theorem l9View_is (n : Int) (w : World) (d : Bool) (h : decide (0 ≤ n ∧ n ≤ 200) = d) : Calls Tryz.prog 127 #[.int .i64 n] w fun e w' => e = .returned (.bool d) ∧ w' = w := by
 go_enter Tryz.func127, Tryz.ntmps127
 go_wp2_with fail
 refine (l1In_is' n 0 200 _ d h).mono ?_
 rintro e W9 ⟨rfl, rfl⟩
 go_wp2
 go_ret
 exact ⟨rfl, rfl⟩
theorem l9Primary_is (b : Nat) (id size view : Int) (normal : Bool) (last : Int) (s5 : Hd) (commit : Int) (s7 s8 s9 : Hd) (hs : 1 ≤ size ∧ size ≤ 5) (hv : 0 ≤ view ∧ view ≤ 300) (w : World) (X : Bx w b [.int .i64 id, .int .i64 size, .int .i64 view, .bool normal, .int .i64 last, .slice s5.1 s5.2.1 s5.2.2, .int .i64 commit, .slice s7.1 s7.2.1 s7.2.2, .slice s8.1 s8.2.1 s8.2.2, .slice s9.1 s9.2.1 s9.2.2]) : Calls Tryz.prog 74 #[.pointer (some ⟨b, 0, none⟩)] w fun e w' => e = .returned (.bool (view % size == id)) ∧ Below w.heap.size w w' := by
 have h0 : ¬ size = 0 := by omega
 have hr : view.tmod size = view % size := Int.tmod_eq_emod_of_nonneg hv.1
 have h2 := Int.emod_nonneg view h0
 have h3 : view % size < size := Int.emod_lt_of_pos view (by omega)
 have hw : IntKind.i64.wrap (view % size) = view % size := wrapI_same _ (by omega)
 clear h2 h3
 have c := X.cell
 go_enter Tryz.func74, Tryz.ntmps74
 go_wp2_with fail
 go_quiet (fail)
 go_wp2
 go_ret
 exact ⟨rfl, below_drewN (Below.refl _ _) nq⟩
theorem l9Sizes_is (b : Nat) (r : Rep) (h : RH) (hs : 1 ≤ r.size ∧ r.size ≤ 5) (hv : 0 ≤ r.view ∧ r.view ≤ 300) (ho : r.oks.length = h.O.2.1) (ha : r.asks.length = h.A.2.1) (hq : r.doers.length = h.D.2.1) (w : World) (X0 : Bx w b [.int .i64 r.id, .int .i64 r.size, .int .i64 r.view, .bool r.normal, .int .i64 r.last, .slice h.L.1 h.L.2.1 h.L.2.2, .int .i64 r.commit, .slice h.O.1 h.O.2.1 h.O.2.2, .slice h.A.1 h.A.2.1 h.A.2.2, .slice h.D.1 h.D.2.1 h.D.2.2]) (d : Bool) (hd : decide (sizesP r) = d) : Calls Tryz.prog 129 #[.pointer (some ⟨b, 0, none⟩)] w fun e w' => e = .returned (.bool d) ∧ Below w.heap.size w w' := by
 have HD : Hid (decide (((h.O.2.1 : Nat) : Int) = (if leadsB r = true then r.size else 0) ∧ ((h.A.2.1 : Nat) : Int) = (if r.normal = true then 0 else r.size) ∧ ((h.D.2.1 : Nat) : Int) = (if r.normal = true then 0 else r.size)) = d) := by show _ = _; rw [← hd, ← ho, ← ha, ← hq]; rfl
 clear hd ho ha hq
 obtain ⟨id, size, view, normal, last, log, commit, oks, asks, doers⟩ := r
 simp only at hs hv HD X0
 unfold leadsB at HD
 obtain ⟨ld, hl⟩ : ∃ ld, (view % size == id) = ld := ⟨_, rfl⟩
 simp only [hl] at HD
 have HL : Hid _ := hl
 clear hl
 cases normal
 ·have c0 := X0.cell
  go_enter Tryz.func129, Tryz.ntmps129
  have A := and3 (show decide (((h.O.2.1 : Nat) : Int) = 0 ∧ ((h.A.2.1 : Nat) : Int) = size ∧ ((h.D.2.1 : Nat) : Int) = size) = d from HD.out)
  have HA : Hid _ := A
  clear A HD HL
  by_cases q1 : ((h.O.2.1 : Nat) : Int) = 0 <;> by_cases q2 : ((h.A.2.1 : Nat) : Int) = size <;> by_cases q3 : ((h.D.2.1 : Nat) : Int) = size
  all_goals
   first | (have e := HA.out.1 q1 q2 q3; subst e) | (have e := HA.out.2.1 q1; subst e) | (have e := HA.out.2.2.1 q2; subst e) | (have e := HA.out.2.2.2 q3; subst e)
   clear HA
   go_wp2
   go_ret
   first | exact ⟨rfl, Below.refl _ _⟩ | exact ⟨ret_bool (by simpa using q3), Below.refl _ _⟩
 ·have c0 := X0.cell
  go_enter Tryz.func129, Tryz.ntmps129
  go_wp2_with fail
  refine (l9Primary_is b id size view true last h.L commit h.O h.A h.D hs hv _ X0).mono ?_
  rintro e w1 ⟨rfl, B⟩
  replace X0 := X0.below B
  replace c0 := X0.cell
  rw [HL.out]
  cases ld
  ·have A := and3 (show decide (((h.O.2.1 : Nat) : Int) = 0 ∧ ((h.A.2.1 : Nat) : Int) = 0 ∧ ((h.D.2.1 : Nat) : Int) = 0) = d from HD.out)
   have HA : Hid _ := A
   clear A HD HL
   by_cases q1 : ((h.O.2.1 : Nat) : Int) = 0 <;> by_cases q2 : ((h.A.2.1 : Nat) : Int) = 0 <;> by_cases q3 : ((h.D.2.1 : Nat) : Int) = 0
   all_goals
    first | (have e := HA.out.1 q1 q2 q3; subst e) | (have e := HA.out.2.1 q1; subst e) | (have e := HA.out.2.2.1 q2; subst e) | (have e := HA.out.2.2.2 q3; subst e)
    clear HA
    go_wp2
    go_ret
    first | exact ⟨rfl, B⟩ | exact ⟨ret_bool (by simpa using q3), B⟩
  ·have A := and3 (show decide (((h.O.2.1 : Nat) : Int) = size ∧ ((h.A.2.1 : Nat) : Int) = 0 ∧ ((h.D.2.1 : Nat) : Int) = 0) = d from HD.out)
   have HA : Hid _ := A
   clear A HD HL
   by_cases q1 : ((h.O.2.1 : Nat) : Int) = size <;> by_cases q2 : ((h.A.2.1 : Nat) : Int) = 0 <;> by_cases q3 : ((h.D.2.1 : Nat) : Int) = 0
   all_goals
    first | (have e := HA.out.1 q1 q2 q3; subst e) | (have e := HA.out.2.1 q1; subst e) | (have e := HA.out.2.2.1 q2; subst e) | (have e := HA.out.2.2.2 q3; subst e)
    clear HA
    go_wp2
    go_ret
    first | exact ⟨rfl, B⟩ | exact ⟨ret_bool (by simpa using q3), B⟩
theorem l9Doer_is {own : Bool} {lo hi : Nat} (b o : Nat) (kn : Bool) (la cm : Int) (a : Option Addr) (n cap : Nat) (xs : List En) (w : World) (e0 : w.cell? ⟨b, o, none⟩ = some (.bool kn)) (e1 : w.cell? ⟨b, o + 1, none⟩ = some (.int .i64 la)) (e2 : w.cell? ⟨b, o + 2, none⟩ = some (.slice a n cap)) (e3 : w.cell? ⟨b, o + 3, none⟩ = some (.int .i64 cm)) (h : RowAt w own lo hi 6 a n cap (sixs xs)) (d : Int) (hd : drFault (kn, la, xs, cm) = d) : Calls Tryz.prog 130 #[.pointer (some ⟨b, o, none⟩)] w fun e w' => e = .returned (.int .i64 d) ∧ Below w.heap.size w w' := by
 have hx := h.nSixs
 unfold drFault at hd
 simp only [hx] at hd
 have HD : Hid _ := hd
 clear hd
 unfold lgF at HD
 rw [hx] at HD
 obtain ⟨f, hf⟩ : ∃ f, logF xs = f := ⟨_, rfl⟩
 rw [hf] at HD
 have HF : Hid _ := hf
 clear hf
 cases kn
 ·by_cases q1 : la = 0
  rotate_left 1
  ·have e := HD.out
   rw [if_pos ⟨rfl, Or.inl q1⟩] at e
   subst e
   have q1' : (la != 0) = true := by simp [q1]
   clear HD
   go_enter Tryz.func130, Tryz.ntmps130
   go_wp2
   go_ret
   exact ⟨rfl, Below.refl _ _⟩
  by_cases q2 : n = 0
  rotate_left 1
  ·have e := HD.out
   rw [if_pos ⟨rfl, Or.inr (Or.inl q2)⟩] at e
   subst e
   have q2' : (0 : Int) < (n : Int) := by omega
   have q1' : (la != 0) = false := by simp [q1]
   clear HD
   go_enter Tryz.func130, Tryz.ntmps130
   go_wp2
   go_ret
   exact ⟨rfl, Below.refl _ _⟩
  by_cases q3 : cm = 0
  rotate_left 1
  ·have e := HD.out
   rw [if_pos ⟨rfl, Or.inr (Or.inr q3)⟩] at e
   subst e
   have q3' : (cm != 0) = true := by simp [q3]
   have q2' : ¬ (0 : Int) < (n : Int) := by omega
   have q1' : (la != 0) = false := by simp [q1]
   clear HD
   go_enter Tryz.func130, Tryz.ntmps130
   go_wp2
   go_ret
   exact ⟨rfl, Below.refl _ _⟩
  have hd := HD.out
  rw [if_neg (by simp [q1, q2, q3])] at hd
  clear HD
  subst q1
  subst q3
  subst q2
  go_enter Tryz.func130, Tryz.ntmps130
  go_wp2_with fail
  have hl : (0 : Int) ≤ 0 ∧ (0 : Int) ≤ 200 := by omega
  rw [if_pos hl] at hd
  refine (l9View_is 0 _ true (by simp only [decide_eq_true_eq]; exact hl)).mono ?_
  rintro e W9 ⟨rfl, rfl⟩
  go_wp2_with fail
  refine (specLF_is a 0 cap xs _ h f HF.out).mono ?_
  rintro e w1 ⟨rfl, B⟩
  replace e0 := cell_later B e0
  replace e1 := cell_later B e1
  replace e2 := cell_later B e2
  replace e3 := cell_later B e3
  by_cases q : f = 0
  rotate_left 1
  ·rw [if_neg q] at hd
   subst hd
   have q' : (f != 0) = true := by simp [q]
   go_wp2
   go_ret
   exact ⟨rfl, B⟩
  subst q
  rw [if_pos rfl] at hd
  have D : Below w1.heap.size w1 w1.drew := (Below.refl _ _).drew
  replace e0 := cell_later D e0
  replace e1 := cell_later D e1
  replace e2 := cell_later D e2
  replace e3 := cell_later D e3
  replace B := below_next B D
  clear D
  rw [if_pos (by simp)] at hd
  subst hd
  go_wp2_with fail
  refine wp_region_held_drew (S := (fun w' => w'.cell? ⟨b, o + 2, none⟩ = some (.slice a 0 cap) ∧ w'.cell? ⟨b, o + 3, none⟩ = some (.int .i64 0))) (by kernel_rfl) ⟨e2, e3⟩ (fun hZq => ?_)
  refine tk 0 hZq ?_
  refine tk 1 hZq ?_
  refine tk 2 hZq ?_
  refine tk 3 hZq ?_
  refine tk 4 hZq ?_
  refine tk 5 hZq ?_
  refine tk 6 hZq ?_
  refine tk 7 hZq ?_
  refine tk 8 hZq ?_
  refine rd1 9 (fun KK hKK => ?_)
  go_simp
  go_at_call 126
  refine (l1In_is' 0 0 0 _ true (by simp only [decide_eq_true_eq]; omega)).mono ?_
  rintro e W9 ⟨rfl, rfl⟩
  clear hZq
  refine hKK _ _ ⟨e2, e3⟩ (fun hZq => ?_)
  clear hKK KK
  refine tk 10 hZq ?_
  refine wpAnyH_done (by kernel_rfl) ?_ _
  go_wp2
  go_ret
  exact ⟨rfl, B⟩
 ·have hd := HD.out
  rw [if_neg (by simp)] at hd
  clear HD
  go_enter Tryz.func130, Tryz.ntmps130
  go_wp2_with fail
  by_cases hl : 0 ≤ la ∧ la ≤ 200
  rotate_left 1
  ·rw [if_neg hl] at hd
   subst hd
   refine (l9View_is la _ false (by simp only [decide_eq_false_eq]; exact hl)).mono ?_
   rintro e W9 ⟨rfl, rfl⟩
   go_wp2
   go_ret
   exact ⟨rfl, Below.refl _ _⟩
  rw [if_pos hl] at hd
  refine (l9View_is la _ true (by simp only [decide_eq_true_eq]; exact hl)).mono ?_
  rintro e W9 ⟨rfl, rfl⟩
  go_wp2_with fail
  refine (specLF_is a n cap xs _ h f HF.out).mono ?_
  rintro e w1 ⟨rfl, B⟩
  replace e0 := cell_later B e0
  replace e1 := cell_later B e1
  replace e2 := cell_later B e2
  replace e3 := cell_later B e3
  by_cases q : f = 0
  rotate_left 1
  ·rw [if_neg q] at hd
   subst hd
   have q' : (f != 0) = true := by simp [q]
   go_wp2
   go_ret
   exact ⟨rfl, B⟩
  subst q
  rw [if_pos rfl] at hd
  have D : Below w1.heap.size w1 w1.drew := (Below.refl _ _).drew
  replace e0 := cell_later D e0
  replace e1 := cell_later D e1
  replace e2 := cell_later D e2
  replace e3 := cell_later D e3
  replace B := below_next B D
  clear D
  by_cases hc : 0 ≤ cm ∧ cm ≤ n
  ·rw [if_pos hc] at hd
   subst hd
   go_wp2_with fail
   refine wp_region_held_drew (S := (fun w' => w'.cell? ⟨b, o + 2, none⟩ = some (.slice a n cap) ∧ w'.cell? ⟨b, o + 3, none⟩ = some (.int .i64 cm))) (by kernel_rfl) ⟨e2, e3⟩ (fun hZq => ?_)
   refine tk 0 hZq ?_
   refine tk 1 hZq ?_
   refine tk 2 hZq ?_
   refine tk 3 hZq ?_
   refine tk 4 hZq ?_
   refine tk 5 hZq ?_
   refine tk 6 hZq ?_
   refine tk 7 hZq ?_
   refine tk 8 hZq ?_
   refine rd1 9 (fun KK hKK => ?_)
   go_simp
   go_at_call 126
   refine (l1In_is' cm 0 n _ true (by simp only [decide_eq_true_eq]; exact hc)).mono ?_
   rintro e W9 ⟨rfl, rfl⟩
   clear hZq
   refine hKK _ _ ⟨e2, e3⟩ (fun hZq => ?_)
   clear hKK KK
   refine tk 10 hZq ?_
   refine wpAnyH_done (by kernel_rfl) ?_ _
   go_wp2
   go_ret
   exact ⟨rfl, B⟩
  ·rw [if_neg hc] at hd
   subst hd
   go_wp2_with fail
   refine wp_region_held_drew (S := (fun w' => w'.cell? ⟨b, o + 2, none⟩ = some (.slice a n cap) ∧ w'.cell? ⟨b, o + 3, none⟩ = some (.int .i64 cm))) (by kernel_rfl) ⟨e2, e3⟩ (fun hZq => ?_)
   refine tk 0 hZq ?_
   refine tk 1 hZq ?_
   refine tk 2 hZq ?_
   refine tk 3 hZq ?_
   refine tk 4 hZq ?_
   refine tk 5 hZq ?_
   refine tk 6 hZq ?_
   refine tk 7 hZq ?_
   refine tk 8 hZq ?_
   refine rd1 9 (fun KK hKK => ?_)
   go_simp
   go_at_call 126
   refine (l1In_is' cm 0 n _ false (by simp only [decide_eq_false_eq]; exact hc)).mono ?_
   rintro e W9 ⟨rfl, rfl⟩
   clear hZq
   refine hKK _ _ ⟨e2, e3⟩ (fun hZq => ?_)
   clear hKK KK
   refine tk 10 hZq ?_
   refine wpAnyH_done (by kernel_rfl) ?_ _
   go_wp2
   go_ret
   exact ⟨rfl, B⟩
end Go.Proofs.YtonclmbihhdkpaaGreat

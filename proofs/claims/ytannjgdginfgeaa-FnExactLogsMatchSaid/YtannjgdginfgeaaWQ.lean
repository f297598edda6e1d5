/- Chapter 9: mails marked by the laws: plain. -/
import Derived.Test.YtannjgdginfgeaaWK
import Derived.Test.YtannjgdginfgeaaZA
import Derived.Test.YtannjgdginfgeaaWH
namespace Go.Proofs.Ytannjgdginfgeaa
open Go.RowKit

def mkMF (K : Nat → Hd) (k : Int) (i c : Nat) : Value := [.int .i64 (kE 14 K k i), .int .i64 (kE 14 K k i + 1), .int .i64 (kE 14 K k i + 2), .int .i64 (kE 14 K k i + 3), .int .i64 (kE 14 K k i + 4), .bool ((kE 14 K k i + 5) % 3 == 0), .int .i64 (kE 14 K k i + 6), .int .i64 (kE 14 K k i + 7), .int .i64 (kE 14 K k i + 8), .int .i64 (kE 14 K k i + 9), .int .i64 (kE 14 K k i + 10), .int .i64 (kE 14 K k i + 11), .int .i64 (kE 14 K k i + 12), hv (K i), .int .i64 (kE 14 K k i + 13 + 6 * ((K i).2.1 : Int))].getD c default
end Go.Proofs.Ytannjgdginfgeaa

/- Chapter 9: mails held by the laws. -/
namespace Go.Proofs.Ytannjgdginfgeaa
open Go.RowKit

end Go.Proofs.Ytannjgdginfgeaa

/- Chapter 9: mails marked by the laws. -/
namespace Go.Proofs.Ytannjgdginfgeaa
open Go.RowKit

end Go.Proofs.Ytannjgdginfgeaa

/- Chapter 9: bools marked and held by the laws; a replica's lists marked and held. -/
namespace Go.Proofs.Ytannjgdginfgeaa
open Go.RowKit

def marksB (k : Int) (n : Nat) : List Bool := (List.range n).map fun j : Nat => (k + (j : Int)) % 3 == 0
/-- where marks begin in a replica's lists -/
def mkO (h : RH) (k : Int) : Int := k + 6 * (h.L.2.1 : Int)
def mkA (h : RH) (k : Int) : Int := mkO h k + h.O.2.1
def mkD (h : RH) (k : Int) : Int := mkA h k + h.A.2.1
def mkEnd (h : RH) (k : Int) : Int := kE 3 h.K (mkD h k) h.D.2.1
/-- a replica's lists that are marked -/
structure MarkAt (w : World) (o : Bool) (lo hi : Nat) (h : RH) (k : Int) : Prop where
  log : RowAt w o lo hi 6 h.L.1 h.L.2.1 h.L.2.2 (sixs (marks6 k h.L.2.1))
  oks : RowAt w o lo hi 1 h.O.1 h.O.2.1 h.O.2.2 (ints (marks (mkO h k) h.O.2.1))
  asks : RowAt w o lo hi 1 h.A.1 h.A.2.1 h.A.2.2 (bls (marksB (mkA h k) h.A.2.1))
  doers : ElsAt 4 w o lo hi h.D.1 h.D.2.1 h.D.2.2 (mkDF h.K (mkD h k)) h.K (paM 3 2 h.K (mkD h k) (fun _ => []) h.D.2.1)
theorem MarkAt.below {w w' : World} {o : Bool} {lo hi : Nat} {h : RH} {k : Int} (m : MarkAt w o lo hi h k) (hb : Below w.heap.size w w') : MarkAt w' o lo hi h k := ⟨m.log.below hb, m.oks.below hb, m.asks.below hb, m.doers.below hb⟩
theorem MarkAt.kept {w w' : World} {o : Bool} {lo hi : Nat} {h : RH} {k : Int} (m : MarkAt w o lo hi h k) {l u : Nat} (hk : Kept l u w w') (hd : hi ≤ l ∨ u ≤ lo) : MarkAt w' o lo hi h k := ⟨m.log.kept hk hd, m.oks.kept hk hd, m.asks.kept hk hd, m.doers.kept hk hd⟩
theorem Sep.symm {S T : Nat → Prop} (h : Sep S T) : Sep T S := fun x a b => h x b a
end Go.Proofs.Ytannjgdginfgeaa

/- Chapter 9: what a node answers (a replica and mails) compared, marked and held by the laws. -/
namespace Go.Proofs.Ytannjgdginfgeaa
open Go.RowKit

theorem MailsAt.mailC {w : World} {own : Bool} {lo hi : Nat} {ao : Option Addr} {n cap : Nat} {K : Nat → Hd} {ms : List Ml} (h : MailsAt w own lo hi ao n cap K ms) {i : Nat} (hi' : i < n) :
    ∃ b off, ao = some ⟨b, off, none⟩ ∧ lo ≤ b ∧ b < hi ∧ b < w.heap.size ∧ (∀ j, j < 15 → w.cell? ⟨b, off + i * 15 + j, none⟩ = (mlV (K i) (ms.getD i ml0))[j]?) ∧ RowAt w own lo hi 6 (K i).1 (K i).2.1 (K i).2.2 (sixs (ms.getD i ml0).log) := by
  obtain ⟨b, off, e, h1, h2, h3, hc, _⟩ := h.els.el hi' (by omega)
  refine ⟨b, off, e, h1, h2, h3, fun j hj => ?_, h.els.logs i hi'⟩
  have := hc j hj
  rw [← Nat.add_assoc] at this
  rw [this, mlF, List.getD_eq_getElem?_getD, List.getElem?_eq_getElem (by simpa [mlV] using hj)]
  rfl
set_option maxRecDepth 20000 in
set_option maxHeartbeats 2000000 in
theorem eqMails_yes {o1 o2 : Bool} {l1 u1 l2 u2 : Nat} (a1 a2 : Option Addr) (n c1 m c2 : Nat) (K1 K2 : Nat → Hd) (ms : List Ml) (w : World) (h1 : MailsAt w o1 l1 u1 a1 n c1 K1 ms) (h2 : MailsAt w o2 l2 u2 a2 m c2 K2 ms) (hn : n ≤ 2097152) (hm : ∀ i, i < n → (K1 i).2.1 ≤ 2097152) :
    Calls Try.prog 40 #[.slice a1 n c1, .slice a2 m c2] w fun e w' => e = .returned (.bool true) ∧ Below w.heap.size w w' := by
  obtain rfl : n = m := by rw [← h1.len, ← h2.len]
  have hb0 : ((n : Int) != (n : Int)) = false := by simp
  have HM : Hid _ := hm
  clear hm
  go_enter Try.func40, Try.ntmps40
  go_wp2
  go_loopw [5] (fun i wr => ∃ k : Nat, k ≤ n ∧ i = .int .i64 k ∧ Below w.heap.size w wr) (fun i _ => n - (intOf i).toNat)
  case atStart => exact ⟨0, Nat.zero_le _, rfl, Below.refl _ _⟩
  case round =>
    obtain ⟨k, hk, rfl, hb⟩ := hrel
    by_cases hlt : k < n
    · have hlk : (k : Int) < (n : Int) := by omega
      have D : Below wr.heap.size wr wr.drew := (Below.refl _ _).drew
      replace hb := below_next hb D
      clear D
      obtain ⟨b1, f1, rfl, _, _, _, e1, g1⟩ := (h1.below hb).mailC hlt
      obtain ⟨b2, f2, rfl, _, _, _, e2, g2⟩ := (h2.below hb).mailC hlt
      have hmk := HM.out k hlt
      generalize K1 k = q1 at *
      generalize K2 k = q2 at *
      generalize ms.getD k ml0 = d at *
      unfold mlV hv at e1 e2
      have x0 := e1 0 (by decide)
      have x1 := e1 1 (by decide)
      have x2 := e1 2 (by decide)
      have x3 := e1 3 (by decide)
      have x4 := e1 4 (by decide)
      have x5 := e1 5 (by decide)
      have x6 := e1 6 (by decide)
      have x7 := e1 7 (by decide)
      have x8 := e1 8 (by decide)
      have x9 := e1 9 (by decide)
      have x10 := e1 10 (by decide)
      have x11 := e1 11 (by decide)
      have x12 := e1 12 (by decide)
      have x13 := e1 13 (by decide)
      have x14 := e1 14 (by decide)
      have y0 := e2 0 (by decide)
      have y1 := e2 1 (by decide)
      have y2 := e2 2 (by decide)
      have y3 := e2 3 (by decide)
      have y4 := e2 4 (by decide)
      have y5 := e2 5 (by decide)
      have y6 := e2 6 (by decide)
      have y7 := e2 7 (by decide)
      have y8 := e2 8 (by decide)
      have y9 := e2 9 (by decide)
      have y10 := e2 10 (by decide)
      have y11 := e2 11 (by decide)
      have y12 := e2 12 (by decide)
      have y13 := e2 13 (by decide)
      have y14 := e2 14 (by decide)
      simp only [List.getElem?_cons_zero, List.getElem?_cons_succ, Nat.add_zero] at x0 x1 x2 x3 x4 x5 x6 x7 x8 x9 x10 x11 x12 x13 x14 y0 y1 y2 y3 y4 y5 y6 y7 y8 y9 y10 y11 y12 y13 y14
      clear e1 e2
      go_wp2_with fail
      refine wp_region_held_drew (S := (fun w' => w'.cell? ⟨b1, f1 + k * 15, none⟩ = some (.int .i64 d.kind) ∧ w'.cell? ⟨b1, f1 + k * 15 + 1, none⟩ = some (.int .i64 d.fr) ∧ w'.cell? ⟨b1, f1 + k * 15 + 2, none⟩ = some (.int .i64 d.to) ∧ w'.cell? ⟨b1, f1 + k * 15 + 3, none⟩ = some (.int .i64 d.view) ∧ w'.cell? ⟨b1, f1 + k * 15 + 4, none⟩ = some (.int .i64 d.at_) ∧ w'.cell? ⟨b1, f1 + k * 15 + 5, none⟩ = some (.bool d.has) ∧ w'.cell? ⟨b1, f1 + k * 15 + 6, none⟩ = some (.int .i64 d.en.1) ∧ w'.cell? ⟨b1, f1 + k * 15 + 7, none⟩ = some (.int .i64 d.en.2.1) ∧ w'.cell? ⟨b1, f1 + k * 15 + 8, none⟩ = some (.int .i64 d.en.2.2.1) ∧ w'.cell? ⟨b1, f1 + k * 15 + 9, none⟩ = some (.int .i64 d.en.2.2.2.1) ∧ w'.cell? ⟨b1, f1 + k * 15 + 10, none⟩ = some (.int .i64 d.en.2.2.2.2.1) ∧ w'.cell? ⟨b1, f1 + k * 15 + 11, none⟩ = some (.int .i64 d.en.2.2.2.2.2) ∧ w'.cell? ⟨b1, f1 + k * 15 + 12, none⟩ = some (.int .i64 d.last) ∧ w'.cell? ⟨b1, f1 + k * 15 + 13, none⟩ = some (.slice q1.1 q1.2.1 q1.2.2) ∧ w'.cell? ⟨b1, f1 + k * 15 + 14, none⟩ = some (.int .i64 d.commit) ∧ w'.cell? ⟨b2, f2 + k * 15, none⟩ = some (.int .i64 d.kind) ∧ w'.cell? ⟨b2, f2 + k * 15 + 1, none⟩ = some (.int .i64 d.fr) ∧ w'.cell? ⟨b2, f2 + k * 15 + 2, none⟩ = some (.int .i64 d.to) ∧ w'.cell? ⟨b2, f2 + k * 15 + 3, none⟩ = some (.int .i64 d.view) ∧ w'.cell? ⟨b2, f2 + k * 15 + 4, none⟩ = some (.int .i64 d.at_) ∧ w'.cell? ⟨b2, f2 + k * 15 + 5, none⟩ = some (.bool d.has) ∧ w'.cell? ⟨b2, f2 + k * 15 + 6, none⟩ = some (.int .i64 d.en.1) ∧ w'.cell? ⟨b2, f2 + k * 15 + 7, none⟩ = some (.int .i64 d.en.2.1) ∧ w'.cell? ⟨b2, f2 + k * 15 + 8, none⟩ = some (.int .i64 d.en.2.2.1) ∧ w'.cell? ⟨b2, f2 + k * 15 + 9, none⟩ = some (.int .i64 d.en.2.2.2.1) ∧ w'.cell? ⟨b2, f2 + k * 15 + 10, none⟩ = some (.int .i64 d.en.2.2.2.2.1) ∧ w'.cell? ⟨b2, f2 + k * 15 + 11, none⟩ = some (.int .i64 d.en.2.2.2.2.2) ∧ w'.cell? ⟨b2, f2 + k * 15 + 12, none⟩ = some (.int .i64 d.last) ∧ w'.cell? ⟨b2, f2 + k * 15 + 13, none⟩ = some (.slice q2.1 q2.2.1 q2.2.2) ∧ w'.cell? ⟨b2, f2 + k * 15 + 14, none⟩ = some (.int .i64 d.commit))) (by kernel_rfl) ⟨x0, x1, x2, x3, x4, x5, x6, x7, x8, x9, x10, x11, x12, x13, x14, y0, y1, y2, y3, y4, y5, y6, y7, y8, y9, y10, y11, y12, y13, y14⟩ (fun hHeld => ?_)
      refine wpAnyH_take (i := 0) (v := ?_) rfl (by kernel_rfl) (by kernel_rfl) (by kernel_rfl) (fun _ _ _ h => h) (Or.inl ⟨by rfl, ?_⟩) hHeld ?_
      rotate_left 1
      · intro w hSw
        try dsimp only at hSw
        first | (go_simp; done) | (go_simp; with_reducible rfl)
      simp only [Act.put, List.setIfInBounds_toArray, List.set_cons_zero, List.set_cons_succ, List.getElem_toArray, List.getElem_cons_zero]
      refine wpAnyH_take (i := 1) (v := ?_) rfl (by kernel_rfl) (by kernel_rfl) (by kernel_rfl) (fun _ _ _ h => h) (Or.inl ⟨by rfl, ?_⟩) hHeld ?_
      rotate_left 1
      · intro w hSw
        try dsimp only at hSw
        first | (go_simp; done) | (go_simp; with_reducible rfl)
      simp only [Act.put, List.setIfInBounds_toArray, List.set_cons_zero, List.set_cons_succ, List.getElem_toArray, List.getElem_cons_zero, List.getElem_cons_succ]
      refine wpAnyH_take (i := 2) (v := ?_) rfl (by kernel_rfl) (by kernel_rfl) (by kernel_rfl) (fun _ _ _ h => h) (Or.inl ⟨by rfl, ?_⟩) hHeld ?_
      rotate_left 1
      · intro w hSw
        try dsimp only at hSw
        first | (go_simp; done) | (go_simp; with_reducible rfl)
      simp only [Act.put, List.setIfInBounds_toArray, List.set_cons_zero, List.set_cons_succ, List.getElem_toArray, List.getElem_cons_zero, List.getElem_cons_succ]
      refine wpAnyH_take (i := 3) (v := ?_) rfl (by kernel_rfl) (by kernel_rfl) (by kernel_rfl) (fun _ _ _ h => h) (Or.inl ⟨by rfl, ?_⟩) hHeld ?_
      rotate_left 1
      · intro w hSw
        try dsimp only at hSw
        first | (go_simp; done) | (go_simp; with_reducible rfl)
      simp only [Act.put, List.setIfInBounds_toArray, List.set_cons_zero, List.set_cons_succ, List.getElem_toArray, List.getElem_cons_zero, List.getElem_cons_succ]
      refine wpAnyH_take (i := 4) (v := ?_) rfl (by kernel_rfl) (by kernel_rfl) (by kernel_rfl) (fun _ _ _ h => h) (Or.inl ⟨by rfl, ?_⟩) hHeld ?_
      rotate_left 1
      · intro w hSw
        try dsimp only at hSw
        first | (go_simp; done) | (go_simp; with_reducible rfl)
      simp only [Act.put, List.setIfInBounds_toArray, List.set_cons_zero, List.set_cons_succ, List.getElem_toArray, List.getElem_cons_zero, List.getElem_cons_succ]
      refine wpAnyH_take (i := 5) (v := ?_) rfl (by kernel_rfl) (by kernel_rfl) (by kernel_rfl) (fun _ _ _ h => h) (Or.inl ⟨by rfl, ?_⟩) hHeld ?_
      rotate_left 1
      · intro w hSw
        try dsimp only at hSw
        first | (go_simp; done) | (go_simp; with_reducible rfl)
      simp only [Act.put, List.setIfInBounds_toArray, List.set_cons_zero, List.set_cons_succ, List.getElem_toArray, List.getElem_cons_zero, List.getElem_cons_succ]
      refine wpAnyH_take (i := 6) (v := ?_) rfl (by kernel_rfl) (by kernel_rfl) (by kernel_rfl) (fun _ _ _ h => h) (Or.inl ⟨by rfl, ?_⟩) hHeld ?_
      rotate_left 1
      · intro w hSw
        try dsimp only at hSw
        first | (go_simp; done) | (go_simp; with_reducible rfl)
      simp only [Act.put, List.setIfInBounds_toArray, List.set_cons_zero, List.set_cons_succ, List.getElem_toArray, List.getElem_cons_zero, List.getElem_cons_succ]
      refine wpAnyH_take (i := 7) (v := ?_) rfl (by kernel_rfl) (by kernel_rfl) (by kernel_rfl) (fun _ _ _ h => h) (Or.inl ⟨by rfl, ?_⟩) hHeld ?_
      rotate_left 1
      · intro w hSw
        try dsimp only at hSw
        first | (go_simp; done) | (go_simp; with_reducible rfl)
      simp only [Act.put, List.setIfInBounds_toArray, List.set_cons_zero, List.set_cons_succ, List.getElem_toArray, List.getElem_cons_zero, List.getElem_cons_succ]
      refine wpAnyH_ready (rs := [8]) (by kernel_rfl) (by simp) ?_
      refine AllReadyH.cons rfl (fun KK hKK => ?_) AllReadyH.nil
      go_simp
      go_at_call 71
      refine (eqMail_yes d q1 q2 _ g1 g2 hmk).mono ?_
      rintro e w1 ⟨rfl, BB⟩
      replace x0 := cell_later BB x0
      replace x1 := cell_later BB x1
      replace x2 := cell_later BB x2
      replace x3 := cell_later BB x3
      replace x4 := cell_later BB x4
      replace x5 := cell_later BB x5
      replace x6 := cell_later BB x6
      replace x7 := cell_later BB x7
      replace x8 := cell_later BB x8
      replace x9 := cell_later BB x9
      replace x10 := cell_later BB x10
      replace x11 := cell_later BB x11
      replace x12 := cell_later BB x12
      replace x13 := cell_later BB x13
      replace x14 := cell_later BB x14
      replace y0 := cell_later BB y0
      replace y1 := cell_later BB y1
      replace y2 := cell_later BB y2
      replace y3 := cell_later BB y3
      replace y4 := cell_later BB y4
      replace y5 := cell_later BB y5
      replace y6 := cell_later BB y6
      replace y7 := cell_later BB y7
      replace y8 := cell_later BB y8
      replace y9 := cell_later BB y9
      replace y10 := cell_later BB y10
      replace y11 := cell_later BB y11
      replace y12 := cell_later BB y12
      replace y13 := cell_later BB y13
      replace y14 := cell_later BB y14
      replace hb := below_next hb BB
      clear BB g1 g2
      clear hHeld
      refine hKK _ _ ⟨x0, x1, x2, x3, x4, x5, x6, x7, x8, x9, x10, x11, x12, x13, x14, y0, y1, y2, y3, y4, y5, y6, y7, y8, y9, y10, y11, y12, y13, y14⟩ (fun hHeld => ?_)
      clear hKK KK
      refine wpAnyH_take (i := 9) (v := ?_) rfl (by kernel_rfl) (by kernel_rfl) (by kernel_rfl) (fun _ _ _ h => h) (Or.inl ⟨by rfl, ?_⟩) hHeld ?_
      rotate_left 1
      · intro w hSw
        try dsimp only at hSw
        first | (go_simp; done) | (go_simp; with_reducible rfl)
      simp only [Act.put, List.setIfInBounds_toArray, List.set_cons_zero, List.set_cons_succ, List.getElem_toArray, List.getElem_cons_zero, List.getElem_cons_succ]
      refine wpAnyH_done (by kernel_rfl) ?_ _
      clear x0 x1 x2 x3 x4 x5 x6 x7 x8 x9 x10 x11 x12 x13 x14 y0 y1 y2 y3 y4 y5 y6 y7 y8 y9 y10 y11 y12 y13 y14
      go_wp2
      go_roundw
      case rel => exact ⟨k + 1, by omega, by go_num, hb⟩
      case measure => simp [intOf]; omega
    · obtain rfl : k = n := by omega
      go_wp2
      go_ret
      exact ⟨rfl, hb⟩
/-- what a node answers, in memory: its lists, and the mails that it sends, each in memory of its own where it is the call's own -/
structure AnsAt (w : World) (own : Bool) (lo hi : Nat) (h : RH) (s : Hd) (Km : Nat → Hd) (r : Rep) (ms : List Ml) : Prop where
  rep : RepAt w own lo hi h r
  send : MailsAt w own lo hi s.1 s.2.1 s.2.2 Km ms
  sep : own = true → Sep (inRep h) (inE s.1 s.2.1 Km)
structure ASz (h : RH) (s : Hd) (Km : Nat → Hd) (m : Nat) : Prop where
  rep : RSz h m
  n : s.2.1 ≤ m
  K : ∀ i, i < s.2.1 → (Km i).2.1 ≤ m
theorem ASz.mono {h : RH} {s : Hd} {Km : Nat → Hd} {m m' : Nat} (x : ASz h s Km m) (hm : m ≤ m') : ASz h s Km m' := ⟨x.rep.mono hm, Nat.le_trans x.n hm, fun i hi => Nat.le_trans (x.K i hi) hm⟩
def inAns (h : RH) (s : Hd) (Km : Nat → Hd) (k : Nat) : Prop := inRep h k ∨ inE s.1 s.2.1 Km k
section
variable {w w' : World} {own : Bool} {lo hi : Nat} {h : RH} {s : Hd} {Km : Nat → Hd} {r : Rep} {ms : List Ml}
theorem AnsAt.below (x : AnsAt w own lo hi h s Km r ms) (hb : Below w.heap.size w w') : AnsAt w' own lo hi h s Km r ms := ⟨x.rep.below hb, x.send.below hb, x.sep⟩
theorem AnsAt.kept (x : AnsAt w own lo hi h s Km r ms) {l u : Nat} (hk : Kept l u w w') (hd : hi ≤ l ∨ u ≤ lo) : AnsAt w' own lo hi h s Km r ms := ⟨x.rep.kept hk hd, x.send.kept hk hd, x.sep⟩
theorem AnsAt.widen (x : AnsAt w own lo hi h s Km r ms) {lo' hi' : Nat} (h1 : lo' ≤ lo) (h2 : hi ≤ hi') : AnsAt w own lo' hi' h s Km r ms := ⟨x.rep.widen h1 h2, x.send.widen h1 h2, x.sep⟩
theorem AnsAt.inB (x : AnsAt w own lo hi h s Km r ms) {k : Nat} (hk : inAns h s Km k) : lo ≤ k ∧ k < hi ∧ k < w.heap.size := hk.elim x.rep.inB x.send.els.inB
/-- an answer that sends nothing -/
theorem AnsAt.bare (x : RepAt w own lo hi h r) (a : Option Addr) (c : Nat) : AnsAt w own lo hi h (a, 0, c) Km r [] :=
  ⟨x, ⟨rfl, ElsAt.nil _ _ _ _ _ _ _ _ _ _⟩, fun _ k _ h2 => by rcases h2 with ⟨h0, _⟩ | ⟨i, hi, _⟩; exact h0 rfl; exact absurd hi (Nat.not_lt_zero _)⟩
theorem ASz.bare {m : Nat} (x : RSz h m) (a : Option Addr) (c : Nat) : ASz h (a, 0, c) Km m := ⟨x, Nat.zero_le _, fun _ hi => absurd hi (Nat.not_lt_zero _)⟩
/-- an answer with a code: nothing in it -/
theorem AnsAt.none (w : World) (own : Bool) (lo hi : Nat) : AnsAt w own lo hi ⟨(none, 0, 0), (none, 0, 0), (none, 0, 0), (none, 0, 0), fun _ => (none, 0, 0)⟩ (none, 0, 0) (fun _ => (none, 0, 0)) rep0 [] :=
  AnsAt.bare ⟨RowAt.nilR _ _ _ _ _ _ _, RowAt.nilR _ _ _ _ _ _ _, RowAt.nilR _ _ _ _ _ _ _, ⟨rfl, ElsAt.nil _ _ _ _ _ _ _ _ _ _⟩, fun _ => ⟨fun _ a => absurd rfl a.1, fun _ a => absurd rfl a.1, fun _ a => absurd rfl a.1, fun _ a => absurd rfl a.1, fun _ a => absurd rfl a.1, fun _ a => absurd rfl a.1⟩⟩ _ _
theorem ASz.none (m : Nat) : ASz ⟨((none : Option Addr), 0, 0), (none, 0, 0), (none, 0, 0), (none, 0, 0), fun _ => (none, 0, 0)⟩ (none, 0, 0) (fun _ => (none, 0, 0)) m :=
  ASz.bare ⟨Nat.zero_le _, Nat.zero_le _, Nat.zero_le _, Nat.zero_le _, fun _ hi => absurd hi (Nat.not_lt_zero _)⟩ _ _
end
/-- an answer that is marked -/
structure MAns (w : World) (o : Bool) (lo hi : Nat) (h : RH) (s : Hd) (Km : Nat → Hd) : Prop where
  rep : MarkAt w o lo hi h 1
  send : ElsAt 15 w o lo hi s.1 s.2.1 s.2.2 (mkMF Km (mkEnd h 1)) Km (paM 14 13 Km (mkEnd h 1) (fun _ => []) s.2.1)
theorem MAns.below {w w' : World} {o : Bool} {lo hi : Nat} {h : RH} {s : Hd} {Km : Nat → Hd} (m : MAns w o lo hi h s Km) (hb : Below w.heap.size w w') : MAns w' o lo hi h s Km := ⟨m.rep.below hb, m.send.below hb⟩
theorem MAns.kept {w w' : World} {o : Bool} {lo hi : Nat} {h : RH} {s : Hd} {Km : Nat → Hd} (m : MAns w o lo hi h s Km) {l u : Nat} (hk : Kept l u w w') (hd : hi ≤ l ∨ u ≤ lo) : MAns w' o lo hi h s Km := ⟨m.rep.kept hk hd, m.send.kept hk hd⟩
theorem MarkAt.keptS {w w' : World} {o : Bool} {lo hi : Nat} {h : RH} {k : Int} (m : MarkAt w o lo hi h k) {S : Nat → Prop} (hk : KeptS S w w') (hd : Sep (inRep h) S) : MarkAt w' o lo hi h k :=
  ⟨m.log.keptR hk fun k q => hd k (Or.inl q), m.oks.keptR hk fun k q => hd k (Or.inr (Or.inl q)), m.asks.keptR hk fun k q => hd k (Or.inr (Or.inr (Or.inl q))), m.doers.keptS hk fun k q => hd k (Or.inr (Or.inr (Or.inr q)))⟩
end Go.Proofs.Ytannjgdginfgeaa

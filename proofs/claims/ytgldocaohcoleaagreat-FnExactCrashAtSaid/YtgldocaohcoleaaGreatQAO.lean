/- Chapter 11: lists of nodes and of mails copied by the laws. -/
import Derived.Test.YtgldocaohcoleaaGreatQAN
import Derived.Test.YtgldocaohcoleaaGreatQAG
import Derived.Test.YtgldocaohcoleaaGreatQAB
set_option maxRecDepth 20000
set_option maxHeartbeats 16000000
namespace Go.Proofs.YtgldocaohcoleaaGreat
open Go.RowKit
theorem Tryz.infReplica : (Tryz.prog.info? 65).map (fun i => (i.zero, i.size, i.bytes)) = some (some (.agg #[.int .i64 0, .int .i64 0, .int .i64 0, .bool false, .int .i64 0, .slice none 0 0, .int .i64 0, .slice none 0 0, .slice none 0 0, .slice none 0 0]), 10, 144) := by kernel_rfl
def ReplicaSt (xs : List Nod) (g n : Nat) (wr : World) (k : Nat) : Prop := ∃ ys : List Nod, LAt nodeK wr true g wr.heap.size (some ⟨g, 0, none⟩) n n ys ∧ (∀ i : Nat, i < k → (ys.getD i nod0).1 = (xs.getD i nod0).1) ∧ (∀ i : Nat, i < k → (fun a : Nod => RSz a.2 1048576) (ys.getD i nod0))
theorem ReplicaSt.put {xs : List Nod} {g n : Nat} {wr w1 : World} {k : Nat} (x : ReplicaSt xs g n wr k) (hk : k < n) {r : Rep} {h h' : RH} (ex : xs[k]? = some (r, h)) (hb : Below wr.heap.size wr w1) (y : nodeK.mem w1 true wr.heap.size w1.heap.size (r, h')) (hz : (fun a : Nod => RSz a.2 1048576) (r, h')) :
  w1.there g (k * 10) 10 ∧ ReplicaSt xs g n (w1.setCells g (k * 10) [.int .i64 r.id, .int .i64 r.size, .int .i64 r.view, .bool r.normal, .int .i64 r.last, .slice h'.L.1 h'.L.2.1 h'.L.2.2, .int .i64 r.commit, .slice h'.O.1 h'.O.2.1 h'.O.2.2, .slice h'.A.1 h'.A.2.1 h'.A.2.2, .slice h'.D.1 h'.D.2.1 h'.D.2.2]) (k + 1) := by
 obtain ⟨ys, L, e1, e2⟩ := x
 have hlt := (L.row.inB (k := g) ⟨by omega, rfl⟩)
 have L1 := (L.below nodeOk hb).widen nodeOk (Nat.le_refl _) hb.size
 obtain ⟨a, b, off, ea, eb, _, _, _, hc, hf⟩ := L1.el nodeOk hk
 simp only [Option.some.injEq, Addr.mk.injEq, and_true] at eb
 obtain ⟨rfl, rfl⟩ := eb
 refine ⟨fun j hj => ⟨?_, ?_⟩, (ys.set k (r, h')), ?_, fun i hi => ?_, fun i hi => ?_⟩
 ·have t := hc j hj
  rw [Nat.zero_add] at t
  have hl := nodeOk.len a
  show (w1.cell? ⟨g, k * nodeK.sz + j, none⟩).isSome = true
  rw [t, List.getElem?_eq_getElem (by rw [hl]; exact hj)]; rfl
 ·have t := hf rfl j hj
  rw [Nat.zero_add] at t
  exact t
 ·have P := L1.put nodeOk hk (r, h') (nodeOk.widen y (Nat.le_of_lt hlt.2.2) (Nat.le_refl _)) (fun q hq => by have := nodeOk.inB y hq; omega) (fun j c ec _ q hq hq2 => by
   have h3 := nodeOk.inB y hq
   have h4 := nodeOk.inB (L.each j c ec) hq2
   omega)
  rw [Nat.zero_add] at P
  have hsz : (w1.setCells g (k * 10) [.int .i64 r.id, .int .i64 r.size, .int .i64 r.view, .bool r.normal, .int .i64 r.last, .slice h'.L.1 h'.L.2.1 h'.L.2.2, .int .i64 r.commit, .slice h'.O.1 h'.O.2.1 h'.O.2.2, .slice h'.A.1 h'.A.2.1 h'.A.2.2, .slice h'.D.1 h'.D.2.1 h'.D.2.2]).heap.size = w1.heap.size := size_setCells' _ _ _ _
  rw [hsz]
  exact P
 ·have hl : k < ys.length := by rw [L.len]; exact hk
  rw [getD_set_fst hl]
  by_cases c : i = k
  ·rw [if_pos c, c, getD_of_get ex]
  ·rw [if_neg c]; exact e1 i (by omega)
 ·have hl : k < ys.length := by rw [L.len]; exact hk
  rw [getD_set_fst hl]
  by_cases c : i = k
  ·rw [if_pos c]; exact hz
  ·rw [if_neg c]; exact e2 i (by omega)
theorem toReplicas_any {own : Bool} {lo hi : Nat} (ao : Option Addr) (n cap : Nat) (xs : List Nod) (w : World) (x : LAt nodeK w own lo hi ao n cap xs) (hn : n ≤ 1048576) (hs : (∀ (i : Nat) (a : Nod), xs[i]? = some a → RSz a.2 1048576)) :
  Calls Tryz.prog 76 #[.slice ao n cap] w fun e w' => ∃ g ys, e = .returned (.slice (some ⟨g, 0, none⟩) n n) ∧ w.heap.size ≤ g ∧ g < w'.heap.size ∧ LAt nodeK w' true w.heap.size w'.heap.size (some ⟨g, 0, none⟩) n n ys ∧ ys.map (·.1) = xs.map (·.1) ∧ (∀ (i : Nat) (a : Nod), ys[i]? = some a → RSz a.2 1048576) ∧ Below w.heap.size w w' := by
 have hx := x.len
 obtain ⟨i0, hi0, hz0, hz1, hz2⟩ := info_parts Tryz.infReplica
 have HS : Hid _ := hs
 clear hs
 go_enter Tryz.func76, Tryz.ntmps76
 go_wp2_with (first | (at_make; refine wpList_make_full _ rfl _ _ 28 rfl w.heap.size 65 i0 (.agg #[.int .i64 0, .int .i64 0, .int .i64 0, .bool false, .int .i64 0, .slice none 0 0, .int .i64 0, .slice none 0 0, .slice none 0 0, .slice none 0 0]) 10 Tryz.underlying28 hi0 hz0 hz1 _ _ _ _ n rfl rfl rfl rfl ?b1 ?b2 ?b3 ?_))
 case b1 => rw [hz2]; omega
 case b2 => unfold maxLen; omega
 case b3 => exact Nat.le_refl _
 intro w1 hown hgrow
 have hb1 : Below w.heap.size w w1 := (Below.refl _ _).grown hgrow (Nat.le_refl _) (fun k hk => by cases hk)
 have hown0 : w1.ownsRow w.heap.size 65 10 (.slice (some ⟨w.heap.size, 0, none⟩) n n) n ((List.replicate n nod0).flatMap nodeK.cells) := by
  have e : (madeCells #[.int .i64 0, .int .i64 0, .int .i64 0, .bool false, .int .i64 0, .slice none 0 0, .int .i64 0, .slice none 0 0, .slice none 0 0, .slice none 0 0] (n * 10)).toList = (List.replicate n nod0).flatMap nodeK.cells := made_list nodeOk n nod0 #[.int .i64 0, .int .i64 0, .int .i64 0, .bool false, .int .i64 0, .slice none 0 0, .int .i64 0, .slice none 0 0, .slice none 0 0, .slice none 0 0] rfl
  rw [← e]; simpa [Value.cells] using hown
 have hlt0 := (owns_lt hown0).2
 have E0 : ReplicaSt xs w.heap.size n w1 0 := ⟨_, LAt.made hown0 (nod0_mem _ _ _ _) nod0_inn, fun i hi => absurd hi (Nat.not_lt_zero _), fun i hi => absurd hi (Nat.not_lt_zero _)⟩
 clear hown hgrow hown0
 generalize hg : w.heap.size = g at *
 have HG : Hid _ := hg
 clear hg
 go_wp2
 go_loopw [4] (fun i wr => ∃ k : Nat, k ≤ n ∧ i = .int .i64 k ∧ ReplicaSt xs g n wr k ∧ g < wr.heap.size ∧ Below g w wr) (fun i _ => n - (intOf i).toNat)
 case atStart => exact ⟨0, Nat.zero_le _, rfl, E0, hlt0, hb1⟩
 case round =>
  obtain ⟨k, hk, rfl, E, hgl, hb⟩ := hrel
  clear E0 hb1 hlt0
  by_cases hlt : k < n
  ·have hlk : (k : Int) < (n : Int) := by omega
   replace hb : Below w.heap.size w wr := by rw [HG.out]; exact hb
   obtain ⟨r, h, b, off, ex, rfl, _, _, X0, y, _⟩ := (x.below nodeOk hb).node hlt
   replace hb : Below g w wr := by rw [← HG.out]; exact hb
   have c0 := X0.cell
   have hmk := HS.out k _ ex
   have HX : Hid _ := ex
   have HE : Hid (ReplicaSt xs g n wr k) := E
   clear ex E
   simp only at hmk
   go_wp2_with fail
   refine (toReplica_any r h _ y hmk).mono ?_
   rintro e w2 ⟨h', rfl, y', z', BB⟩
   obtain ⟨TH, E2⟩ := HE.out.put hlt HX.out BB y' z'
   have HT : Hid _ := TH
   have HE2 : Hid _ := E2
   replace hb := below_step hb (Nat.le_of_lt hgl) BB
   have hgl' := Nat.lt_of_lt_of_le hgl BB.size
   clear TH E2 HE HX X0 c0 y y' z' BB
   go_wp2_with (first | ((refine store_elP 65 HT.out [.int .i64 r.id, .int .i64 r.size, .int .i64 r.view, .bool r.normal, .int .i64 r.last, .slice h'.L.1 h'.L.2.1 h'.L.2.2, .int .i64 r.commit, .slice h'.O.1 h'.O.2.1 h'.O.2.2, .slice h'.A.1 h'.A.2.1 h'.A.2.2, .slice h'.D.1 h'.D.2.1 h'.D.2.2] (by simp) (by kernel_rfl) (by simp [Value.oneCell']) rfl rfl ?_); intro W5 hW5))
   have HSS : Hid (Below g w W5) := by rw [hW5.eq]; show Below _ _ _; exact hb.trans ((kept_el _ _ _).below _ (Nat.le_refl _) (Nat.le_of_lt hgl'))
   have HSZ : Hid (g < W5.heap.size) := by rw [hW5.eq, size_setCells']; exact hgl'
   replace HE2 : Hid (ReplicaSt xs g n W5 (k + 1)) := by rw [hW5.eq]; exact HE2
   clear hW5 HT hb hgl' hgl
   go_wp2
   go_roundw
   case rel => exact ⟨k + 1, by omega, by go_num, HE2.out, HSZ.out, HSS.out⟩
   case measure => simp [intOf]; omega
  ·obtain rfl : k = n := by omega
   go_wp2
   go_ret
   obtain ⟨ys, L, e1, e2⟩ := E
   have hg := HG.out
   subst hg
   refine ⟨_, ys, rfl, Nat.le_refl _, hgl, L, map_fst_eq (d := nod0) hx L.len e1, fun i a e => ?_, hb⟩
   have := e2 i (by rw [← L.len]; exact (List.getElem?_eq_some_iff.1 e).1)
   rw [getD_of_get e] at this
   exact this
theorem Tryz.infMail : (Tryz.prog.info? 75).map (fun i => (i.zero, i.size, i.bytes)) = some (some (.agg #[.int .i64 0, .int .i64 0, .int .i64 0, .int .i64 0, .int .i64 0, .bool false, .int .i64 0, .int .i64 0, .int .i64 0, .int .i64 0, .int .i64 0, .int .i64 0, .int .i64 0, .slice none 0 0, .int .i64 0]), 15, 136) := by kernel_rfl
def MailSt (xs : List Mal) (g n : Nat) (wr : World) (k : Nat) : Prop := ∃ ys : List Mal, LAt mailK wr true g wr.heap.size (some ⟨g, 0, none⟩) n n ys ∧ (∀ i : Nat, i < k → (ys.getD i mal0).1 = (xs.getD i mal0).1) ∧ (∀ i : Nat, i < k → (fun a : Mal => a.2.2.1 ≤ 1048576) (ys.getD i mal0))
theorem MailSt.put {xs : List Mal} {g n : Nat} {wr w1 : World} {k : Nat} (x : MailSt xs g n wr k) (hk : k < n) {m : Ml} {h h' : Hd} (ex : xs[k]? = some (m, h)) (hb : Below wr.heap.size wr w1) (y : mailK.mem w1 true wr.heap.size w1.heap.size (m, h')) (hz : (fun a : Mal => a.2.2.1 ≤ 1048576) (m, h')) :
  w1.there g (k * 15) 15 ∧ MailSt xs g n (w1.setCells g (k * 15) [.int .i64 m.kind, .int .i64 m.fr, .int .i64 m.to, .int .i64 m.view, .int .i64 m.at_, .bool m.has, .int .i64 m.en.1, .int .i64 m.en.2.1, .int .i64 m.en.2.2.1, .int .i64 m.en.2.2.2.1, .int .i64 m.en.2.2.2.2.1, .int .i64 m.en.2.2.2.2.2, .int .i64 m.last, .slice h'.1 h'.2.1 h'.2.2, .int .i64 m.commit]) (k + 1) := by
 obtain ⟨ys, L, e1, e2⟩ := x
 have hlt := (L.row.inB (k := g) ⟨by omega, rfl⟩)
 have L1 := (L.below mailOk hb).widen mailOk (Nat.le_refl _) hb.size
 obtain ⟨a, b, off, ea, eb, _, _, _, hc, hf⟩ := L1.el mailOk hk
 simp only [Option.some.injEq, Addr.mk.injEq, and_true] at eb
 obtain ⟨rfl, rfl⟩ := eb
 refine ⟨fun j hj => ⟨?_, ?_⟩, (ys.set k (m, h')), ?_, fun i hi => ?_, fun i hi => ?_⟩
 ·have t := hc j hj
  rw [Nat.zero_add] at t
  have hl := mailOk.len a
  show (w1.cell? ⟨g, k * mailK.sz + j, none⟩).isSome = true
  rw [t, List.getElem?_eq_getElem (by rw [hl]; exact hj)]; rfl
 ·have t := hf rfl j hj
  rw [Nat.zero_add] at t
  exact t
 ·have P := L1.put mailOk hk (m, h') (mailOk.widen y (Nat.le_of_lt hlt.2.2) (Nat.le_refl _)) (fun q hq => by have := mailOk.inB y hq; omega) (fun j c ec _ q hq hq2 => by
   have h3 := mailOk.inB y hq
   have h4 := mailOk.inB (L.each j c ec) hq2
   omega)
  rw [Nat.zero_add] at P
  have hsz : (w1.setCells g (k * 15) [.int .i64 m.kind, .int .i64 m.fr, .int .i64 m.to, .int .i64 m.view, .int .i64 m.at_, .bool m.has, .int .i64 m.en.1, .int .i64 m.en.2.1, .int .i64 m.en.2.2.1, .int .i64 m.en.2.2.2.1, .int .i64 m.en.2.2.2.2.1, .int .i64 m.en.2.2.2.2.2, .int .i64 m.last, .slice h'.1 h'.2.1 h'.2.2, .int .i64 m.commit]).heap.size = w1.heap.size := size_setCells' _ _ _ _
  rw [hsz]
  exact P
 ·have hl : k < ys.length := by rw [L.len]; exact hk
  rw [getD_set_fst hl]
  by_cases c : i = k
  ·rw [if_pos c, c, getD_of_get ex]
  ·rw [if_neg c]; exact e1 i (by omega)
 ·have hl : k < ys.length := by rw [L.len]; exact hk
  rw [getD_set_fst hl]
  by_cases c : i = k
  ·rw [if_pos c]; exact hz
  ·rw [if_neg c]; exact e2 i (by omega)
theorem toMail_n {own : Bool} {lo hi : Nat} (m : Ml) (h : Hd) (w : World) (x : RowAt w own lo hi 6 h.1 h.2.1 h.2.2 (sixs m.log)) (hn : h.2.1 ≤ 1048576) :
  Calls Tryz.prog 57 #[.agg #[.int .i64 m.kind, .int .i64 m.fr, .int .i64 m.to, .int .i64 m.view, .int .i64 m.at_, .bool m.has, .int .i64 m.en.1, .int .i64 m.en.2.1, .int .i64 m.en.2.2.1, .int .i64 m.en.2.2.2.1, .int .i64 m.en.2.2.2.2.1, .int .i64 m.en.2.2.2.2.2, .int .i64 m.last, .slice h.1 h.2.1 h.2.2, .int .i64 m.commit]] w fun e w' => ∃ h' : Hd, e = .returned (.agg #[.int .i64 m.kind, .int .i64 m.fr, .int .i64 m.to, .int .i64 m.view, .int .i64 m.at_, .bool m.has, .int .i64 m.en.1, .int .i64 m.en.2.1, .int .i64 m.en.2.2.1, .int .i64 m.en.2.2.2.1, .int .i64 m.en.2.2.2.2.1, .int .i64 m.en.2.2.2.2.2, .int .i64 m.last, .slice h'.1 h'.2.1 h'.2.2, .int .i64 m.commit]) ∧ RowAt w' true w.heap.size w'.heap.size 6 h'.1 h'.2.1 h'.2.2 (sixs m.log) ∧ h'.2.1 ≤ 1048576 ∧ Below w.heap.size w w' :=
 (toMail_any m h w x hn).mono fun _ _ ⟨g, e1, h1, h2, R, b⟩ => ⟨(some ⟨g, 0, none⟩, h.2.1, h.2.1), e1, R.widen h1 h2, hn, b⟩
theorem toMails_any {own : Bool} {lo hi : Nat} (ao : Option Addr) (n cap : Nat) (xs : List Mal) (w : World) (x : LAt mailK w own lo hi ao n cap xs) (hn : n ≤ 1048576) (hs : (∀ (i : Nat) (a : Mal), xs[i]? = some a → a.2.2.1 ≤ 1048576)) :
  Calls Tryz.prog 77 #[.slice ao n cap] w fun e w' => ∃ g ys, e = .returned (.slice (some ⟨g, 0, none⟩) n n) ∧ w.heap.size ≤ g ∧ g < w'.heap.size ∧ LAt mailK w' true w.heap.size w'.heap.size (some ⟨g, 0, none⟩) n n ys ∧ ys.map (·.1) = xs.map (·.1) ∧ (∀ (i : Nat) (a : Mal), ys[i]? = some a → a.2.2.1 ≤ 1048576) ∧ Below w.heap.size w w' := by
 have hx := x.len
 obtain ⟨i0, hi0, hz0, hz1, hz2⟩ := info_parts Tryz.infMail
 have HS : Hid _ := hs
 clear hs
 go_enter Tryz.func77, Tryz.ntmps77
 go_wp2_with (first | (at_make; refine wpList_make_full _ rfl _ _ 29 rfl w.heap.size 75 i0 (.agg #[.int .i64 0, .int .i64 0, .int .i64 0, .int .i64 0, .int .i64 0, .bool false, .int .i64 0, .int .i64 0, .int .i64 0, .int .i64 0, .int .i64 0, .int .i64 0, .int .i64 0, .slice none 0 0, .int .i64 0]) 15 Tryz.underlying29 hi0 hz0 hz1 _ _ _ _ n rfl rfl rfl rfl ?b1 ?b2 ?b3 ?_))
 case b1 => rw [hz2]; omega
 case b2 => unfold maxLen; omega
 case b3 => exact Nat.le_refl _
 intro w1 hown hgrow
 have hb1 : Below w.heap.size w w1 := (Below.refl _ _).grown hgrow (Nat.le_refl _) (fun k hk => by cases hk)
 have hown0 : w1.ownsRow w.heap.size 75 15 (.slice (some ⟨w.heap.size, 0, none⟩) n n) n ((List.replicate n mal0).flatMap mailK.cells) := by
  have e : (madeCells #[.int .i64 0, .int .i64 0, .int .i64 0, .int .i64 0, .int .i64 0, .bool false, .int .i64 0, .int .i64 0, .int .i64 0, .int .i64 0, .int .i64 0, .int .i64 0, .int .i64 0, .slice none 0 0, .int .i64 0] (n * 15)).toList = (List.replicate n mal0).flatMap mailK.cells := made_list mailOk n mal0 #[.int .i64 0, .int .i64 0, .int .i64 0, .int .i64 0, .int .i64 0, .bool false, .int .i64 0, .int .i64 0, .int .i64 0, .int .i64 0, .int .i64 0, .int .i64 0, .int .i64 0, .slice none 0 0, .int .i64 0] rfl
  rw [← e]; simpa [Value.cells] using hown
 have hlt0 := (owns_lt hown0).2
 have E0 : MailSt xs w.heap.size n w1 0 := ⟨_, LAt.made hown0 (mal0_mem _ _ _ _) mal0_inn, fun i hi => absurd hi (Nat.not_lt_zero _), fun i hi => absurd hi (Nat.not_lt_zero _)⟩
 clear hown hgrow hown0
 generalize hg : w.heap.size = g at *
 have HG : Hid _ := hg
 clear hg
 go_wp2
 go_loopw [4] (fun i wr => ∃ k : Nat, k ≤ n ∧ i = .int .i64 k ∧ MailSt xs g n wr k ∧ g < wr.heap.size ∧ Below g w wr) (fun i _ => n - (intOf i).toNat)
 case atStart => exact ⟨0, Nat.zero_le _, rfl, E0, hlt0, hb1⟩
 case round =>
  obtain ⟨k, hk, rfl, E, hgl, hb⟩ := hrel
  clear E0 hb1 hlt0
  by_cases hlt : k < n
  ·have hlk : (k : Int) < (n : Int) := by omega
   replace hb : Below w.heap.size w wr := by rw [HG.out]; exact hb
   obtain ⟨m, h, b, off, ex, rfl, _, _, X0, y, _⟩ := (x.below mailOk hb).mail hlt
   replace hb : Below g w wr := by rw [← HG.out]; exact hb
   have c0 := X0.cell
   have hmk := HS.out k _ ex
   have HX : Hid _ := ex
   have HE : Hid (MailSt xs g n wr k) := E
   clear ex E
   simp only at hmk
   go_wp2_with fail
   refine (toMail_n m h _ y hmk).mono ?_
   rintro e w2 ⟨h', rfl, y', z', BB⟩
   obtain ⟨TH, E2⟩ := HE.out.put hlt HX.out BB y' z'
   have HT : Hid _ := TH
   have HE2 : Hid _ := E2
   replace hb := below_step hb (Nat.le_of_lt hgl) BB
   have hgl' := Nat.lt_of_lt_of_le hgl BB.size
   clear TH E2 HE HX X0 c0 y y' z' BB
   go_wp2_with (first | ((refine store_elP 75 HT.out [.int .i64 m.kind, .int .i64 m.fr, .int .i64 m.to, .int .i64 m.view, .int .i64 m.at_, .bool m.has, .int .i64 m.en.1, .int .i64 m.en.2.1, .int .i64 m.en.2.2.1, .int .i64 m.en.2.2.2.1, .int .i64 m.en.2.2.2.2.1, .int .i64 m.en.2.2.2.2.2, .int .i64 m.last, .slice h'.1 h'.2.1 h'.2.2, .int .i64 m.commit] (by simp) (by kernel_rfl) (by simp [Value.oneCell']) rfl rfl ?_); intro W5 hW5))
   have HSS : Hid (Below g w W5) := by rw [hW5.eq]; show Below _ _ _; exact hb.trans ((kept_el _ _ _).below _ (Nat.le_refl _) (Nat.le_of_lt hgl'))
   have HSZ : Hid (g < W5.heap.size) := by rw [hW5.eq, size_setCells']; exact hgl'
   replace HE2 : Hid (MailSt xs g n W5 (k + 1)) := by rw [hW5.eq]; exact HE2
   clear hW5 HT hb hgl' hgl
   go_wp2
   go_roundw
   case rel => exact ⟨k + 1, by omega, by go_num, HE2.out, HSZ.out, HSS.out⟩
   case measure => simp [intOf]; omega
  ·obtain rfl : k = n := by omega
   go_wp2
   go_ret
   obtain ⟨ys, L, e1, e2⟩ := E
   have hg := HG.out
   subst hg
   refine ⟨_, ys, rfl, Nat.le_refl _, hgl, L, map_fst_eq (d := mal0) hx L.len e1, fun i a e => ?_, hb⟩
   have := e2 i (by rw [← L.len]; exact (List.getElem?_eq_some_iff.1 e).1)
   rw [getD_of_get e] at this
   exact this
theorem eqReplicas_yes {o1 o2 : Bool} {l1 u1 l2 u2 : Nat} (a1 a2 : Option Addr) (n c1 m c2 : Nat) (xs ys : List Nod) (w : World) (h1 : LAt nodeK w o1 l1 u1 a1 n c1 xs) (h2 : LAt nodeK w o2 l2 u2 a2 m c2 ys) (hxy : ys.map (·.1) = xs.map (·.1)) (hn : n ≤ 1048576) (hs : (∀ (i : Nat) (a : Nod), xs[i]? = some a → RSz a.2 1048576)) :
  Calls Tryz.prog 80 #[.slice a1 n c1, .slice a2 m c2] w fun e w' => e = .returned (.bool true) ∧ Below w.heap.size w w' := by
 obtain rfl : n = m := by rw [← h1.len, ← h2.len]; simpa using (congrArg List.length hxy).symm
 have hb0 : ((n : Int) != (n : Int)) = false := by simp
 have HS : Hid _ := hs
 have HXY : Hid (∀ (i : Nat) (a b : Nod), xs[i]? = some a → ys[i]? = some b → b.1 = a.1) := fun i a b e1 e2 => by
  have t := congrArg (·[i]?) hxy
  simpa [e1, e2] using t
 clear hs hxy
 go_enter Tryz.func80, Tryz.ntmps80
 go_wp2
 go_loopw [5] (fun i wr => ∃ k : Nat, k ≤ n ∧ i = .int .i64 k ∧ Below w.heap.size w wr) (fun i _ => n - (intOf i).toNat)
 case atStart => exact ⟨0, Nat.zero_le _, rfl, Below.refl _ _⟩
 case round =>
  obtain ⟨k, hk, rfl, hb⟩ := hrel
  by_cases hlt : k < n
  ·have hlk : (k : Int) < (n : Int) := by omega
   have D : Below wr.heap.size wr wr.drew := (Below.refl _ _).drew
   replace hb := below_next hb D
   clear D
   obtain ⟨r, q1, b1, f1, ex1, rfl, _, _, X1, y1, _⟩ := (h1.below nodeOk hb).node hlt
   obtain ⟨r2, q2, b2, f2, ex2, rfl, _, _, X2, y2, _⟩ := (h2.below nodeOk hb).node hlt
   have hmk := HS.out k _ ex1
   obtain rfl : r2 = r := HXY.out k _ _ ex1 ex2
   clear ex1 ex2
   simp only at hmk
   have c1 := X1.cell
   have c2 := X2.cell
   go_wp2_with fail
   refine wp_region_held_drew (S := (fun w' => (w'.cell? ⟨b1, f1 + k * 10, none⟩ = [.int .i64 r2.id, .int .i64 r2.size, .int .i64 r2.view, .bool r2.normal, .int .i64 r2.last, .slice q1.L.1 q1.L.2.1 q1.L.2.2, .int .i64 r2.commit, .slice q1.O.1 q1.O.2.1 q1.O.2.2, .slice q1.A.1 q1.A.2.1 q1.A.2.2, .slice q1.D.1 q1.D.2.1 q1.D.2.2][0]? ∧ ∀ k_1 : Nat, k_1 < 10 → w'.cell? ⟨b1, f1 + k * 10 + k_1, none⟩ = [.int .i64 r2.id, .int .i64 r2.size, .int .i64 r2.view, .bool r2.normal, .int .i64 r2.last, .slice q1.L.1 q1.L.2.1 q1.L.2.2, .int .i64 r2.commit, .slice q1.O.1 q1.O.2.1 q1.O.2.2, .slice q1.A.1 q1.A.2.1 q1.A.2.2, .slice q1.D.1 q1.D.2.1 q1.D.2.2][k_1]?) ∧ (w'.cell? ⟨b2, f2 + k * 10, none⟩ = [.int .i64 r2.id, .int .i64 r2.size, .int .i64 r2.view, .bool r2.normal, .int .i64 r2.last, .slice q2.L.1 q2.L.2.1 q2.L.2.2, .int .i64 r2.commit, .slice q2.O.1 q2.O.2.1 q2.O.2.2, .slice q2.A.1 q2.A.2.1 q2.A.2.2, .slice q2.D.1 q2.D.2.1 q2.D.2.2][0]? ∧ ∀ k_1 : Nat, k_1 < 10 → w'.cell? ⟨b2, f2 + k * 10 + k_1, none⟩ = [.int .i64 r2.id, .int .i64 r2.size, .int .i64 r2.view, .bool r2.normal, .int .i64 r2.last, .slice q2.L.1 q2.L.2.1 q2.L.2.2, .int .i64 r2.commit, .slice q2.O.1 q2.O.2.1 q2.O.2.2, .slice q2.A.1 q2.A.2.1 q2.A.2.2, .slice q2.D.1 q2.D.2.1 q2.D.2.2][k_1]?))) (by kernel_rfl) ⟨c1, c2⟩ (fun hZq => ?_)
   refine tk 0 hZq ?_
   refine tk 1 hZq ?_
   refine tk 2 hZq ?_
   refine tk 3 hZq ?_
   refine tk 4 hZq ?_
   refine tk 5 hZq ?_
   refine tk 6 hZq ?_
   refine tk 7 hZq ?_
   refine rd1 8 (fun KK hKK => ?_)
   go_simp
   go_at_call 60
   refine (eqReplica_yes r2 q1 q2 _ y1 y2 (hmk.mono (by omega))).mono ?_
   rintro e w1 ⟨rfl, BB⟩
   replace X1 := X1.below BB
   replace c1 := X1.cell
   replace X2 := X2.below BB
   replace c2 := X2.cell
   replace hb := below_next hb BB
   clear BB y1 y2
   clear hZq
   refine hKK _ _ ⟨c1, c2⟩ (fun hZq => ?_)
   clear hKK KK
   refine tk 9 hZq ?_
   refine wpAnyH_done (by kernel_rfl) ?_ _
   clear c1 c2 X1 X2
   go_wp2
   go_roundw
   case rel => exact ⟨k + 1, by omega, by go_num, hb⟩
   case measure => simp [intOf]; omega
  ·obtain rfl : k = n := by omega
   go_wp2
   go_ret
   exact ⟨rfl, hb⟩
def NAt (w : World) (own : Bool) (lo hi : Nat) (N : Hd) (xs : List Nod) : Prop := LAt nodeK w own lo hi N.1 N.2.1 N.2.2 xs
def MAt (w : World) (own : Bool) (lo hi : Nat) (M : Hd) (ms : List Mal) : Prop := LAt mailK w own lo hi M.1 M.2.1 M.2.2 ms
section
variable {w w' : World} {own : Bool} {lo hi : Nat} {N M Sl : Hd} {xs : List Nod} {ms : List Mal} {es : List En}
theorem NAt.below (h : NAt w own lo hi N xs) (hb : Below w.heap.size w w') : NAt w' own lo hi N xs := LAt.below nodeOk h hb
theorem MAt.below (h : MAt w own lo hi M ms) (hb : Below w.heap.size w w') : MAt w' own lo hi M ms := LAt.below mailOk h hb
theorem NAt.kept (h : NAt w own lo hi N xs) {l u : Nat} (hk : Kept l u w w') (hd : hi ≤ l ∨ u ≤ lo) : NAt w' own lo hi N xs := LAt.kept nodeOk h hk hd
theorem MAt.kept (h : MAt w own lo hi M ms) {l u : Nat} (hk : Kept l u w w') (hd : hi ≤ l ∨ u ≤ lo) : MAt w' own lo hi M ms := LAt.kept mailOk h hk hd
theorem NAt.widen (h : NAt w own lo hi N xs) {lo' hi' : Nat} (h1 : lo' ≤ lo) (h2 : hi ≤ hi') : NAt w own lo' hi' N xs := LAt.widen nodeOk h h1 h2
theorem MAt.widen (h : MAt w own lo hi M ms) {lo' hi' : Nat} (h1 : lo' ≤ lo) (h2 : hi ≤ hi') : MAt w own lo' hi' M ms := LAt.widen mailOk h h1 h2
theorem NAt.inB (h : NAt w own lo hi N xs) {q : Nat} (hq : inL nodeK N.1 N.2.1 xs q) : lo ≤ q ∧ q < hi ∧ q < w.heap.size := LAt.inB nodeOk h hq
theorem MAt.inB (h : MAt w own lo hi M ms) {q : Nat} (hq : inL mailK M.1 M.2.1 ms q) : lo ≤ q ∧ q < hi ∧ q < w.heap.size := LAt.inB mailOk h hq
structure ClAt (w : World) (own : Bool) (lo hi : Nat) (N M Sl : Hd) (xs : List Nod) (ms : List Mal) (es : List En) : Prop where
 nodes : NAt w own lo hi N xs
 mails : MAt w own lo hi M ms
 slog : RowAt w own lo hi 6 Sl.1 Sl.2.1 Sl.2.2 (sixs es)
 sep : own = true → Sep (inL nodeK N.1 N.2.1 xs) (inL mailK M.1 M.2.1 ms) ∧ Sep (inL nodeK N.1 N.2.1 xs) (hR Sl) ∧ Sep (inL mailK M.1 M.2.1 ms) (hR Sl)
structure ClSz (N M Sl : Hd) (xs : List Nod) (ms : List Mal) (z : Nat) : Prop where
 n : N.2.1 ≤ z
 m : M.2.1 ≤ z
 s : Sl.2.1 ≤ z
 nodes : ∀ (i : Nat) (a : Nod), xs[i]? = some a → RSz a.2 z
 mails : ∀ (i : Nat) (a : Mal), ms[i]? = some a → a.2.2.1 ≤ z
theorem ClAt.below (x : ClAt w own lo hi N M Sl xs ms es) (hb : Below w.heap.size w w') : ClAt w' own lo hi N M Sl xs ms es := ⟨x.nodes.below hb, x.mails.below hb, x.slog.below hb, x.sep⟩
theorem ClAt.kept (x : ClAt w own lo hi N M Sl xs ms es) {l u : Nat} (hk : Kept l u w w') (hd : hi ≤ l ∨ u ≤ lo) : ClAt w' own lo hi N M Sl xs ms es := ⟨x.nodes.kept hk hd, x.mails.kept hk hd, x.slog.kept hk hd, x.sep⟩
theorem ClAt.widen (x : ClAt w own lo hi N M Sl xs ms es) {lo' hi' : Nat} (h1 : lo' ≤ lo) (h2 : hi ≤ hi') : ClAt w own lo' hi' N M Sl xs ms es := ⟨x.nodes.widen h1 h2, x.mails.widen h1 h2, x.slog.widen h1 h2, x.sep⟩
theorem clAt_of {z1 u1 z2 u2 g : Nat} (x1 : NAt w true z1 u1 N xs) (x2 : MAt w true z2 u2 M ms) (x3 : RowAt w true g (g + 1) 6 Sl.1 Sl.2.1 Sl.2.2 (sixs es)) (h1 : u1 ≤ z2) (h2 : u2 ≤ g) (h3 : lo ≤ z2) (h4 : lo ≤ g) (h5 : u1 ≤ g) (h6 : g < hi) (h7 : lo ≤ z1) : ClAt w true lo hi N M Sl xs ms es := by
 refine ⟨x1.widen h7 (by omega), x2.widen (by omega) (by omega), x3.widen (by omega) (by omega), fun _ => ⟨fun q a b => ?_, fun q a b => ?_, fun q a b => ?_⟩⟩
 ·have := x1.inB a; have := x2.inB b; omega
 ·have := x1.inB a; have := x3.inB b; omega
 ·have := x2.inB a; have := x3.inB b; omega
end
theorem toReplicas_z {own : Bool} {lo hi : Nat} (N : Hd) (xs : List Nod) (w : World) (x : NAt w own lo hi N xs) (hn : N.2.1 ≤ 1048576) (hs : ∀ (i : Nat) (a : Nod), xs[i]? = some a → RSz a.2 1048576) :
  Calls Tryz.prog 76 #[.slice N.1 N.2.1 N.2.2] w fun e w' => ∃ z u N' ys, e = .returned (.slice N'.1 N'.2.1 N'.2.2) ∧ w.heap.size ≤ z ∧ u ≤ w'.heap.size ∧ NAt w' true z u N' ys ∧ ys.map (·.1) = xs.map (·.1) ∧ N'.2.1 ≤ 1048576 ∧ (∀ (i : Nat) (a : Nod), ys[i]? = some a → RSz a.2 1048576) ∧ Below w.heap.size w w' :=
 (toReplicas_any N.1 N.2.1 N.2.2 xs w x hn hs).mono fun _ _ ⟨g, ys, e1, _, _, y, m, s, b⟩ => ⟨_, _, (some ⟨g, 0, none⟩, N.2.1, N.2.1), ys, e1, Nat.le_refl _, Nat.le_refl _, y, m, hn, s, b⟩
theorem toMails_z {own : Bool} {lo hi : Nat} (M : Hd) (ms : List Mal) (w : World) (x : MAt w own lo hi M ms) (hn : M.2.1 ≤ 1048576) (hs : ∀ (i : Nat) (a : Mal), ms[i]? = some a → a.2.2.1 ≤ 1048576) :
  Calls Tryz.prog 77 #[.slice M.1 M.2.1 M.2.2] w fun e w' => ∃ z u M' ys, e = .returned (.slice M'.1 M'.2.1 M'.2.2) ∧ w.heap.size ≤ z ∧ u ≤ w'.heap.size ∧ MAt w' true z u M' ys ∧ ys.map (·.1) = ms.map (·.1) ∧ M'.2.1 ≤ 1048576 ∧ (∀ (i : Nat) (a : Mal), ys[i]? = some a → a.2.2.1 ≤ 1048576) ∧ Below w.heap.size w w' :=
 (toMails_any M.1 M.2.1 M.2.2 ms w x hn hs).mono fun _ _ ⟨g, ys, e1, _, _, y, m, s, b⟩ => ⟨_, _, (some ⟨g, 0, none⟩, M.2.1, M.2.1), ys, e1, Nat.le_refl _, Nat.le_refl _, y, m, hn, s, b⟩
theorem toCluster_any {own : Bool} {lo hi : Nat} (N M Sl : Hd) (xs : List Nod) (ms : List Mal) (es : List En) (w : World) (x : ClAt w own lo hi N M Sl xs ms es) (hs : ClSz N M Sl xs ms 1048576) :
  Calls Tryz.prog 16 #[.agg #[.slice N.1 N.2.1 N.2.2, .slice M.1 M.2.1 M.2.2, .slice Sl.1 Sl.2.1 Sl.2.2]] w fun e w' => ∃ z u N' M' Sl' ys ns, e = .returned (.agg #[.slice N'.1 N'.2.1 N'.2.2, .slice M'.1 M'.2.1 M'.2.2, .slice Sl'.1 Sl'.2.1 Sl'.2.2]) ∧ w.heap.size ≤ z ∧ u ≤ w'.heap.size ∧ ClAt w' true z u N' M' Sl' ys ns es ∧ ys.map (·.1) = xs.map (·.1) ∧ ns.map (·.1) = ms.map (·.1) ∧ ClSz N' M' Sl' ys ns 1048576 ∧ Below w.heap.size w w' := by
 have HS : Hid _ := hs
 have hs3 := hs.s
 clear hs
 go_enter Tryz.func16, Tryz.ntmps16
 go_wp2_with (first | ((have g := ob1); clear g; (with_reducible refine alloc_newX 32 [.slice none 0 0, .slice none 0 0, .slice none 0 0] (fun _ => by kernel_rfl) ?_); intro b2 W2 N2; have ob2 := Nat.le_trans B.size N2.ge; have o0_b2 := ltl X0.lt N2.ge; have o1_b2 := ltl X1.lt N2.ge; replace X0 := X0.below N2.below; replace c0 := X0.cell; replace X1 := X1.below N2.below; replace c1 := X1.cell; replace f1 := X1.froz; replace B := below_next B N2.below; have X2 := N2.bx; have c2 := X2.cell; have f2 := X2.froz; clear N2) | ((have g := ob0); clear g; (with_reducible refine alloc_newX 32 [.slice none 0 0, .slice none 0 0, .slice none 0 0] (fun _ => by kernel_rfl) ?_); intro b1 W1 N1; have ob1 := Nat.le_trans B.size N1.ge; have o0_b1 := ltl X0.lt N1.ge; replace X0 := X0.below N1.below; replace c0 := X0.cell; replace B := below_next B N1.below; have X1 := N1.bx; have c1 := X1.cell; have f1 := X1.froz; clear N1) | ((with_reducible refine box_newX 26 [.slice N.1 N.2.1 N.2.2, .slice M.1 M.2.1 M.2.2, .slice Sl.1 Sl.2.1 Sl.2.2] rfl ?_); intro b0 W0 N0; have ob0 := N0.ge; have B := N0.below; have X0 := N0.bx; have c0 := X0.cell; clear N0) | fail)
 refine (toReplicas_z N xs _ (x.nodes.below B) HS.out.n HS.out.nodes).mono ?_
 rintro e w1 ⟨za, ua, N', ys, rfl, Gza, hya, ya, ma, na, sa, BB⟩
 have oza : w.heap.size ≤ za := Nat.le_trans B.size Gza
 have o0_za := ltl X0.lt Gza
 have o1_za := ltl X1.lt Gza
 have o2_za := ltl X2.lt Gza
 clear Gza
 replace X0 := X0.below BB
 replace c0 := X0.cell
 replace X1 := X1.below BB
 replace c1 := X1.cell
 replace f1 := X1.froz
 replace X2 := X2.below BB
 replace c2 := X2.cell
 replace f2 := X2.froz
 replace B := below_next B BB
 have MA : Hid _ := ma
 have NA : Hid _ := na
 have SA : Hid _ := sa
 clear ma na sa
 clear BB
 go_wp2_with (first | ((with_reducible refine store_oneX 28 X2 0 (.slice N'.1 N'.2.1 N'.2.2) (by simp) (by kernel_rfl) rfl rfl rfl ?_); intro V1 S; replace X0 := X0.kp S.kept; replace c0 := X0.cell; replace X1 := X1.kp S.kept; replace c1 := X1.cell; replace f1 := X1.froz; replace X2 : Bx V1 b2 [.slice N'.1 N'.2.1 N'.2.2, .slice none 0 0, .slice none 0 0] := S.bx; replace c2 := X2.cell; replace f2 := X2.froz; replace ya := ya.kept S.kept (by omega); replace hya := Nat.le_trans hya S.kept.size; replace B := bkp B S.kept; clear S) | fail)
 refine (toMails_z M ms _ (x.mails.below B) HS.out.m HS.out.mails).mono ?_
 rintro e w2 ⟨zb, ub, M', ns, rfl, Gzb, hyb, yb, mb, nb, sb', BB⟩
 have ozb : w.heap.size ≤ zb := Nat.le_trans B.size Gzb
 have o0_zb := ltl X0.lt Gzb
 have o1_zb := ltl X1.lt Gzb
 have o2_zb := ltl X2.lt Gzb
 have oya_zb : ua ≤ zb := Nat.le_trans hya Gzb
 clear Gzb
 replace X0 := X0.below BB
 replace c0 := X0.cell
 replace X1 := X1.below BB
 replace c1 := X1.cell
 replace f1 := X1.froz
 replace X2 := X2.below BB
 replace c2 := X2.cell
 replace f2 := X2.froz
 replace ya := ya.below BB
 replace hya := Nat.le_trans hya BB.size
 replace B := below_next B BB
 have MB : Hid _ := mb
 have NB : Hid _ := nb
 have SB : Hid _ := sb'
 clear mb nb sb'
 clear BB
 go_wp2_with (first | ((with_reducible refine store_oneX 29 X2 1 (.slice M'.1 M'.2.1 M'.2.2) (by simp) (by kernel_rfl) rfl rfl rfl ?_); intro V2 S; replace X0 := X0.kp S.kept; replace c0 := X0.cell; replace X1 := X1.kp S.kept; replace c1 := X1.cell; replace f1 := X1.froz; replace X2 : Bx V2 b2 [.slice N'.1 N'.2.1 N'.2.2, .slice M'.1 M'.2.1 M'.2.2, .slice none 0 0] := S.bx; replace c2 := X2.cell; replace f2 := X2.froz; replace ya := ya.kept S.kept (by omega); replace hya := Nat.le_trans hya S.kept.size; replace yb := yb.kept S.kept (by omega); replace hyb := Nat.le_trans hyb S.kept.size; replace B := bkp B S.kept; clear S) | fail)
 refine (toEntries_g Sl.1 Sl.2.1 Sl.2.2 es _ (x.slog.below B) hs3).mono ?_
 rintro e w3 ⟨g, rfl, Gg, lR, R, BB⟩
 have og : w.heap.size ≤ g := Nat.le_trans B.size Gg
 have o0_g := ltl X0.lt Gg
 have o1_g := ltl X1.lt Gg
 have o2_g := ltl X2.lt Gg
 have oya_g : ua ≤ g := Nat.le_trans hya Gg
 have oyb_g : ub ≤ g := Nat.le_trans hyb Gg
 clear Gg
 replace X0 := X0.below BB
 replace c0 := X0.cell
 replace X1 := X1.below BB
 replace c1 := X1.cell
 replace f1 := X1.froz
 replace X2 := X2.below BB
 replace c2 := X2.cell
 replace f2 := X2.froz
 replace ya := ya.below BB
 replace hya := Nat.le_trans hya BB.size
 replace yb := yb.below BB
 replace hyb := Nat.le_trans hyb BB.size
 replace B := below_next B BB
 clear BB
 go_wp2_with (first | ((with_reducible refine store_midX 32 X1 0 [.slice N'.1 N'.2.1 N'.2.2, .slice M'.1 M'.2.1 M'.2.2, .slice (some ⟨g, 0, none⟩) Sl.2.1 Sl.2.1] (by simp) (by kernel_rfl) (by simp [Value.oneCell']) rfl rfl ?_); intro V4 S; replace X0 := X0.kp S.kept; replace c0 := X0.cell; replace X1 : Bx V4 b1 [.slice N'.1 N'.2.1 N'.2.2, .slice M'.1 M'.2.1 M'.2.2, .slice (some ⟨g, 0, none⟩) Sl.2.1 Sl.2.1] := S.bx; replace c1 := X1.cell; replace f1 := X1.froz; replace X2 := X2.kp S.kept; replace c2 := X2.cell; replace f2 := X2.froz; replace R := R.kept S.kept (by omega); replace lR := Nat.lt_of_lt_of_le lR S.kept.size; replace ya := ya.kept S.kept (by omega); replace hya := Nat.le_trans hya S.kept.size; replace yb := yb.kept S.kept (by omega); replace hyb := Nat.le_trans hyb S.kept.size; replace B := bkp B S.kept; clear S) | ((with_reducible refine store_oneX 30 X2 2 (.slice (some ⟨g, 0, none⟩) Sl.2.1 Sl.2.1) (by simp) (by kernel_rfl) rfl rfl rfl ?_); intro V3 S; replace X0 := X0.kp S.kept; replace c0 := X0.cell; replace X1 := X1.kp S.kept; replace c1 := X1.cell; replace f1 := X1.froz; replace X2 : Bx V3 b2 [.slice N'.1 N'.2.1 N'.2.2, .slice M'.1 M'.2.1 M'.2.2, .slice (some ⟨g, 0, none⟩) Sl.2.1 Sl.2.1] := S.bx; replace c2 := X2.cell; replace f2 := X2.froz; replace R := R.kept S.kept (by omega); replace lR := Nat.lt_of_lt_of_le lR S.kept.size; replace ya := ya.kept S.kept (by omega); replace hya := Nat.le_trans hya S.kept.size; replace yb := yb.kept S.kept (by omega); replace hyb := Nat.le_trans hyb S.kept.size; replace B := bkp B S.kept; clear S))
 refine bodyPost_ret (v := .agg #[.slice N'.1 N'.2.1 N'.2.2, .slice M'.1 M'.2.1 M'.2.2, .slice (some ⟨g, 0, none⟩) Sl.2.1 Sl.2.1]) (by simp [results, Tryz.results16, go_sem, *]) rfl ⟨_, _, N', M', (some ⟨g, 0, none⟩, Sl.2.1, Sl.2.1), ys, ns, rfl, Nat.le_refl _, Nat.le_refl _, ?_, MA.out, MB.out, ⟨NA.out, NB.out, hs3, SA.out, SB.out⟩, B⟩
 clear x HS
 exact clAt_of ya yb R (by omega) (by omega) (by omega) (by omega) (by omega) (by omega) (by omega)
theorem eqCluster_yes {o1 o2 : Bool} {l1 u1 l2 u2 : Nat} (N M Sl N' M' Sl' : Hd) (xs ys : List Nod) (ms ns : List Mal) (es : List En) (w : World) (x : ClAt w o1 l1 u1 N M Sl xs ms es) (y : ClAt w o2 l2 u2 N' M' Sl' ys ns es) (hxy : ys.map (·.1) = xs.map (·.1)) (hmn : ns.map (·.1) = ms.map (·.1)) (hs : ClSz N M Sl xs ms 1048576) :
  Calls Tryz.prog 19 #[.agg #[.slice N.1 N.2.1 N.2.2, .slice M.1 M.2.1 M.2.2, .slice Sl.1 Sl.2.1 Sl.2.2], .agg #[.slice N'.1 N'.2.1 N'.2.2, .slice M'.1 M'.2.1 M'.2.2, .slice Sl'.1 Sl'.2.1 Sl'.2.2]] w fun e w' => e = .returned (.bool true) ∧ Below w.heap.size w w' := by
 have HS : Hid _ := hs
 have HXY : Hid _ := hxy
 have Y2 := LAt.mails y.mails
 rw [hmn] at Y2
 have HY2 : Hid _ := Y2
 have HX2 : Hid _ := LAt.mails x.mails
 have HK : Hid (∀ i, i < M.2.1 → ((fun i => (ms.getD i mal0).2) i).2.1 ≤ 2097152) := fun i hi => by
  have hl : i < ms.length := by rw [x.mails.len]; exact hi
  have e : ms[i]? = some (ms.getD i mal0) := by simp [List.getD, hl]
  exact Nat.le_trans (hs.mails i _ e) (by omega)
 clear hs hxy hmn Y2
 go_enter Tryz.func19, Tryz.ntmps19
 go_wp2_with (first | ((have g := ob0); clear g; (with_reducible refine box_newX 32 [.slice N'.1 N'.2.1 N'.2.2, .slice M'.1 M'.2.1 M'.2.2, .slice Sl'.1 Sl'.2.1 Sl'.2.2] rfl ?_); intro b1 W1 N1; have ob1 := Nat.le_trans B.size N1.ge; have o0_b1 := ltl X0.lt N1.ge; replace X0 := X0.below N1.below; replace c0 := X0.cell; replace B := below_next B N1.below; have X1 := N1.bx; have c1 := X1.cell; clear N1) | ((with_reducible refine box_newX 32 [.slice N.1 N.2.1 N.2.2, .slice M.1 M.2.1 M.2.2, .slice Sl.1 Sl.2.1 Sl.2.2] rfl ?_); intro b0 W0 N0; have ob0 := N0.ge; have B := N0.below; have X0 := N0.bx; have c0 := X0.cell; clear N0) | fail)
 refine (eqReplicas_yes N.1 N'.1 N.2.1 N.2.2 N'.2.1 N'.2.2 xs ys _ (x.nodes.below B) (y.nodes.below B) HXY.out HS.out.n HS.out.nodes).mono ?_
 rintro e w1 ⟨rfl, BB⟩
 replace X0 := X0.below BB
 replace c0 := X0.cell
 replace X1 := X1.below BB
 replace c1 := X1.cell
 replace B := below_next B BB
 clear BB
 go_wp2_with fail
 refine (eqMails_yes M.1 M'.1 M.2.1 M.2.2 M'.2.1 M'.2.2 _ _ _ _ (HX2.out.below B) (HY2.out.below B) (Nat.le_trans HS.out.m (by omega)) HK.out).mono ?_
 rintro e w2 ⟨rfl, BB⟩
 replace X0 := X0.below BB
 replace c0 := X0.cell
 replace X1 := X1.below BB
 replace c1 := X1.cell
 replace B := below_next B BB
 clear BB
 go_wp2_with fail
 refine (eqEntries_yes _ _ _ _ _ _ es _ (x.slog.below B) (y.slog.below B) (Nat.le_trans HS.out.s (by omega))).mono ?_
 rintro e w3 ⟨rfl, BB⟩
 replace X0 := X0.below BB
 replace c0 := X0.cell
 replace X1 := X1.below BB
 replace c1 := X1.cell
 replace B := below_next B BB
 clear BB
 go_wp2
 go_ret
 exact ⟨rfl, B⟩
end Go.Proofs.YtgldocaohcoleaaGreat

/- Chapter 11: lists of nodes and of mails copied by the laws. -/
import Derived.Test.YtikplcpgocgogaaCO1
namespace Go.Proofs.Ytikplcpgocgogaa
open Go.RowKit

theorem Try.infoReplica : (Try.prog.info? 29).map (fun i => (i.zero, i.size, i.bytes)) = some (some (.agg #[.int .i64 0, .int .i64 0, .int .i64 0, .bool false, .int .i64 0, .slice none 0 0, .int .i64 0, .slice none 0 0, .slice none 0 0, .slice none 0 0]), 10, 144) := by kernel_rfl
def ReplicaSt (xs : List Nod) (g n : Nat) (wr : World) (k : Nat) : Prop := ∃ ys : List Nod, LAt nodeK wr true g wr.heap.size (some ⟨g, 0, none⟩) n n ys ∧ (∀ i : Nat, i < k → (ys.getD i nod0).1 = (xs.getD i nod0).1) ∧ (∀ i : Nat, i < k → (fun a : Nod => RSz a.2 1048576) (ys.getD i nod0))
theorem ReplicaSt.put {xs : List Nod} {g n : Nat} {wr w1 : World} {k : Nat} (x : ReplicaSt xs g n wr k) (hk : k < n) {r : Rep} {h h' : RH} (ex : xs[k]? = some (r, h)) (hb : Below wr.heap.size wr w1) (y : nodeK.mem w1 true wr.heap.size w1.heap.size (r, h')) (hz : (fun a : Nod => RSz a.2 1048576) (r, h')) :
    w1.there g (k * 10) 10 ∧ ReplicaSt xs g n (w1.setCells g (k * 10) [.int .i64 r.id, .int .i64 r.size, .int .i64 r.view, .bool r.normal, .int .i64 r.last, .slice h'.L.1 h'.L.2.1 h'.L.2.2, .int .i64 r.commit, .slice h'.O.1 h'.O.2.1 h'.O.2.2, .slice h'.A.1 h'.A.2.1 h'.A.2.2, .slice h'.D.1 h'.D.2.1 h'.D.2.2]) (k + 1) := by
  obtain ⟨ys, L, e1, e2⟩ := x
  have hlt := (L.row.inB (k := g) ⟨by omega, rfl⟩)
  have L1 := (L.below nodeOk hb).widen nodeOk (Nat.le_refl _) hb.size
  obtain ⟨a, b, off, ea, eb, _, _, _, hc, hf⟩ := L1.el nodeOk hk
  simp only [Option.some.injEq, Addr.mk.injEq, and_true] at eb
  obtain ⟨rfl, rfl⟩ := eb
  refine ⟨fun j hj => ⟨?_, ?_⟩, (ys.set k (r, h')), ?_, fun i hi => ?_, fun i hi => ?_⟩
  · have t := hc j hj
    rw [Nat.zero_add] at t
    have hl := nodeOk.len a
    show (w1.cell? ⟨g, k * nodeK.sz + j, none⟩).isSome = true
    rw [t, List.getElem?_eq_getElem (by rw [hl]; exact hj)]; rfl
  · have t := hf rfl j hj
    rw [Nat.zero_add] at t
    exact t
  · have P := L1.put nodeOk hk (r, h') (nodeOk.widen y (Nat.le_of_lt hlt.2.2) (Nat.le_refl _)) (fun q hq => by have := nodeOk.inB y hq; omega) (fun j c ec _ q hq hq2 => by
      have h3 := nodeOk.inB y hq
      have h4 := nodeOk.inB (L.each j c ec) hq2
      omega)
    rw [Nat.zero_add] at P
    have hsz : (w1.setCells g (k * 10) [.int .i64 r.id, .int .i64 r.size, .int .i64 r.view, .bool r.normal, .int .i64 r.last, .slice h'.L.1 h'.L.2.1 h'.L.2.2, .int .i64 r.commit, .slice h'.O.1 h'.O.2.1 h'.O.2.2, .slice h'.A.1 h'.A.2.1 h'.A.2.2, .slice h'.D.1 h'.D.2.1 h'.D.2.2]).heap.size = w1.heap.size := size_setCells' _ _ _ _
    rw [hsz]
    exact P
  · have hl : k < ys.length := by rw [L.len]; exact hk
    rw [getD_set_fst hl]
    by_cases c : i = k
    · rw [if_pos c, c, getD_of_get ex]
    · rw [if_neg c]; exact e1 i (by omega)
  · have hl : k < ys.length := by rw [L.len]; exact hk
    rw [getD_set_fst hl]
    by_cases c : i = k
    · rw [if_pos c]; exact hz
    · rw [if_neg c]; exact e2 i (by omega)
set_option maxRecDepth 20000 in
set_option maxHeartbeats 2000000 in
theorem toReplicas_any {own : Bool} {lo hi : Nat} (ao : Option Addr) (n cap : Nat) (xs : List Nod) (w : World) (x : LAt nodeK w own lo hi ao n cap xs) (hn : n ≤ 1048576) (hs : (∀ (i : Nat) (a : Nod), xs[i]? = some a → RSz a.2 1048576)) :
    Calls Try.prog 97 #[.slice ao n cap] w fun e w' => ∃ g ys, e = .returned (.slice (some ⟨g, 0, none⟩) n n) ∧ w.heap.size ≤ g ∧ g < w'.heap.size ∧ LAt nodeK w' true w.heap.size w'.heap.size (some ⟨g, 0, none⟩) n n ys ∧ ys.map (·.1) = xs.map (·.1) ∧ (∀ (i : Nat) (a : Nod), ys[i]? = some a → RSz a.2 1048576) ∧ Below w.heap.size w w' := by
  have hx := x.len
  obtain ⟨i0, hi0, hz0, hz1, hz2⟩ := info_parts Try.infoReplica
  have HS : Hid _ := hs
  clear hs
  go_enter Try.func97, Try.ntmps97
  go_wp2_with (first | (at_make; refine wpList_make_full _ rfl _ _ 76 rfl w.heap.size 29 i0 (.agg #[.int .i64 0, .int .i64 0, .int .i64 0, .bool false, .int .i64 0, .slice none 0 0, .int .i64 0, .slice none 0 0, .slice none 0 0, .slice none 0 0]) 10 Try.underlying76 hi0 hz0 hz1 _ _ _ _ n rfl rfl rfl rfl ?b1 ?b2 ?b3 ?_))
  case b1 => rw [hz2]; omega
  case b2 => unfold maxLen; omega
  case b3 => exact Nat.le_refl _
  intro w1 hown hgrow
  have hb1 : Below w.heap.size w w1 := (Below.refl _ _).grown hgrow (Nat.le_refl _) (fun k hk => by cases hk)
  have hown0 : w1.ownsRow w.heap.size 29 10 (.slice (some ⟨w.heap.size, 0, none⟩) n n) n ((List.replicate n nod0).flatMap nodeK.cells) := by
    have e : (madeCells #[.int .i64 0, .int .i64 0, .int .i64 0, .bool false, .int .i64 0, .slice none 0 0, .int .i64 0, .slice none 0 0, .slice none 0 0, .slice none 0 0] (n * 10)).toList = (List.replicate n nod0).flatMap nodeK.cells := made_list nodeOk n nod0 #[.int .i64 0, .int .i64 0, .int .i64 0, .bool false, .int .i64 0, .slice none 0 0, .int .i64 0, .slice none 0 0, .slice none 0 0, .slice none 0 0] rfl
    rw [← e]; simpa [Value.cells] using hown
  have hlt0 := (owns_lt hown0).2
  have E0 : ReplicaSt xs w.heap.size n w1 0 := ⟨_, LAt.made hown0 (nod0_mem _ _ _ _) nod0_inn, fun i hi => absurd hi (Nat.not_lt_zero _), fun i hi => absurd hi (Nat.not_lt_zero _)⟩
  clear hown hgrow hown0
  generalize hg : w.heap.size = g at *
  have HG : Hid _ := hg
  clear hg
  go_wp2
  go_loopw [4] (fun i wr => ∃ k : Nat, k ≤ n ∧ i = .int .i64 k ∧ ReplicaSt xs g n wr k ∧ g < wr.heap.size ∧ Below g w wr) (fun i _ => n - (intOf i).toNat)
  case atStart => exact ⟨0, Nat.zero_le _, rfl, E0, hlt0, hb1⟩
  case round =>
    obtain ⟨k, hk, rfl, E, hgl, hb⟩ := hrel
    clear E0 hb1 hlt0
    by_cases hlt : k < n
    · have hlk : (k : Int) < (n : Int) := by omega
      replace hb : Below w.heap.size w wr := by rw [HG.out]; exact hb
      obtain ⟨r, h, b, off, ex, rfl, _, _, X0, y, _⟩ := (x.below nodeOk hb).node hlt
      replace hb : Below g w wr := by rw [← HG.out]; exact hb
      have c0 := X0.cell
      have hmk := HS.out k _ ex
      have HX : Hid _ := ex
      have HE : Hid (ReplicaSt xs g n wr k) := E
      clear ex E
      simp only at hmk
      go_wp2_with fail
      refine (toReplica_any r h _ y hmk).mono ?_
      rintro e w2 ⟨h', rfl, y', z', BB⟩
      obtain ⟨TH, E2⟩ := HE.out.put hlt HX.out BB y' z'
      have HT : Hid _ := TH
      have HE2 : Hid _ := E2
      replace hb := below_step hb (Nat.le_of_lt hgl) BB
      have hgl' := Nat.lt_of_lt_of_le hgl BB.size
      clear TH E2 HE HX X0 c0 y y' z' BB
      go_wp2_with (first | ((refine store_elP 29 HT.out [.int .i64 r.id, .int .i64 r.size, .int .i64 r.view, .bool r.normal, .int .i64 r.last, .slice h'.L.1 h'.L.2.1 h'.L.2.2, .int .i64 r.commit, .slice h'.O.1 h'.O.2.1 h'.O.2.2, .slice h'.A.1 h'.A.2.1 h'.A.2.2, .slice h'.D.1 h'.D.2.1 h'.D.2.2] (by simp) (by kernel_rfl) (by simp [Value.oneCell']) rfl rfl ?_); intro W5 hW5))
      have HSS : Hid (Below g w W5) := by rw [hW5.eq]; show Below _ _ _; exact hb.trans ((kept_el _ _ _).below _ (Nat.le_refl _) (Nat.le_of_lt hgl'))
      have HSZ : Hid (g < W5.heap.size) := by rw [hW5.eq, size_setCells']; exact hgl'
      replace HE2 : Hid (ReplicaSt xs g n W5 (k + 1)) := by rw [hW5.eq]; exact HE2
      clear hW5 HT hb hgl' hgl
      go_wp2
      go_roundw
      case rel => exact ⟨k + 1, by omega, by go_num, HE2.out, HSZ.out, HSS.out⟩
      case measure => simp [intOf]; omega
    · obtain rfl : k = n := by omega
      go_wp2
      go_ret
      obtain ⟨ys, L, e1, e2⟩ := E
      have hg := HG.out
      subst hg
      refine ⟨_, ys, rfl, Nat.le_refl _, hgl, L, map_fst_eq (d := nod0) hx L.len e1, fun i a e => ?_, hb⟩
      have := e2 i (by rw [← L.len]; exact (List.getElem?_eq_some_iff.1 e).1)
      rw [getD_of_get e] at this
      exact this
theorem Try.infoMail : (Try.prog.info? 46).map (fun i => (i.zero, i.size, i.bytes)) = some (some (.agg #[.int .i64 0, .int .i64 0, .int .i64 0, .int .i64 0, .int .i64 0, .bool false, .int .i64 0, .int .i64 0, .int .i64 0, .int .i64 0, .int .i64 0, .int .i64 0, .int .i64 0, .slice none 0 0, .int .i64 0]), 15, 136) := by kernel_rfl
def MailSt (xs : List Mal) (g n : Nat) (wr : World) (k : Nat) : Prop := ∃ ys : List Mal, LAt mailK wr true g wr.heap.size (some ⟨g, 0, none⟩) n n ys ∧ (∀ i : Nat, i < k → (ys.getD i mal0).1 = (xs.getD i mal0).1) ∧ (∀ i : Nat, i < k → (fun a : Mal => a.2.2.1 ≤ 1048576) (ys.getD i mal0))
theorem MailSt.put {xs : List Mal} {g n : Nat} {wr w1 : World} {k : Nat} (x : MailSt xs g n wr k) (hk : k < n) {m : Ml} {h h' : Hd} (ex : xs[k]? = some (m, h)) (hb : Below wr.heap.size wr w1) (y : mailK.mem w1 true wr.heap.size w1.heap.size (m, h')) (hz : (fun a : Mal => a.2.2.1 ≤ 1048576) (m, h')) :
    w1.there g (k * 15) 15 ∧ MailSt xs g n (w1.setCells g (k * 15) [.int .i64 m.kind, .int .i64 m.fr, .int .i64 m.to, .int .i64 m.view, .int .i64 m.at_, .bool m.has, .int .i64 m.en.1, .int .i64 m.en.2.1, .int .i64 m.en.2.2.1, .int .i64 m.en.2.2.2.1, .int .i64 m.en.2.2.2.2.1, .int .i64 m.en.2.2.2.2.2, .int .i64 m.last, .slice h'.1 h'.2.1 h'.2.2, .int .i64 m.commit]) (k + 1) := by
  obtain ⟨ys, L, e1, e2⟩ := x
  have hlt := (L.row.inB (k := g) ⟨by omega, rfl⟩)
  have L1 := (L.below mailOk hb).widen mailOk (Nat.le_refl _) hb.size
  obtain ⟨a, b, off, ea, eb, _, _, _, hc, hf⟩ := L1.el mailOk hk
  simp only [Option.some.injEq, Addr.mk.injEq, and_true] at eb
  obtain ⟨rfl, rfl⟩ := eb
  refine ⟨fun j hj => ⟨?_, ?_⟩, (ys.set k (m, h')), ?_, fun i hi => ?_, fun i hi => ?_⟩
  · have t := hc j hj
    rw [Nat.zero_add] at t
    have hl := mailOk.len a
    show (w1.cell? ⟨g, k * mailK.sz + j, none⟩).isSome = true
    rw [t, List.getElem?_eq_getElem (by rw [hl]; exact hj)]; rfl
  · have t := hf rfl j hj
    rw [Nat.zero_add] at t
    exact t
  · have P := L1.put mailOk hk (m, h') (mailOk.widen y (Nat.le_of_lt hlt.2.2) (Nat.le_refl _)) (fun q hq => by have := mailOk.inB y hq; omega) (fun j c ec _ q hq hq2 => by
      have h3 := mailOk.inB y hq
      have h4 := mailOk.inB (L.each j c ec) hq2
      omega)
    rw [Nat.zero_add] at P
    have hsz : (w1.setCells g (k * 15) [.int .i64 m.kind, .int .i64 m.fr, .int .i64 m.to, .int .i64 m.view, .int .i64 m.at_, .bool m.has, .int .i64 m.en.1, .int .i64 m.en.2.1, .int .i64 m.en.2.2.1, .int .i64 m.en.2.2.2.1, .int .i64 m.en.2.2.2.2.1, .int .i64 m.en.2.2.2.2.2, .int .i64 m.last, .slice h'.1 h'.2.1 h'.2.2, .int .i64 m.commit]).heap.size = w1.heap.size := size_setCells' _ _ _ _
    rw [hsz]
    exact P
  · have hl : k < ys.length := by rw [L.len]; exact hk
    rw [getD_set_fst hl]
    by_cases c : i = k
    · rw [if_pos c, c, getD_of_get ex]
    · rw [if_neg c]; exact e1 i (by omega)
  · have hl : k < ys.length := by rw [L.len]; exact hk
    rw [getD_set_fst hl]
    by_cases c : i = k
    · rw [if_pos c]; exact hz
    · rw [if_neg c]; exact e2 i (by omega)
theorem toMail_n {own : Bool} {lo hi : Nat} (m : Ml) (h : Hd) (w : World) (x : RowAt w own lo hi 6 h.1 h.2.1 h.2.2 (sixs m.log)) (hn : h.2.1 ≤ 1048576) :
    Calls Try.prog 26 #[.agg #[.int .i64 m.kind, .int .i64 m.fr, .int .i64 m.to, .int .i64 m.view, .int .i64 m.at_, .bool m.has, .int .i64 m.en.1, .int .i64 m.en.2.1, .int .i64 m.en.2.2.1, .int .i64 m.en.2.2.2.1, .int .i64 m.en.2.2.2.2.1, .int .i64 m.en.2.2.2.2.2, .int .i64 m.last, .slice h.1 h.2.1 h.2.2, .int .i64 m.commit]] w fun e w' => ∃ h' : Hd, e = .returned (.agg #[.int .i64 m.kind, .int .i64 m.fr, .int .i64 m.to, .int .i64 m.view, .int .i64 m.at_, .bool m.has, .int .i64 m.en.1, .int .i64 m.en.2.1, .int .i64 m.en.2.2.1, .int .i64 m.en.2.2.2.1, .int .i64 m.en.2.2.2.2.1, .int .i64 m.en.2.2.2.2.2, .int .i64 m.last, .slice h'.1 h'.2.1 h'.2.2, .int .i64 m.commit]) ∧ RowAt w' true w.heap.size w'.heap.size 6 h'.1 h'.2.1 h'.2.2 (sixs m.log) ∧ h'.2.1 ≤ 1048576 ∧ Below w.heap.size w w' :=
  (toMail_any m h w x hn).mono fun _ _ ⟨g, e1, h1, h2, R, b⟩ => ⟨(some ⟨g, 0, none⟩, h.2.1, h.2.1), e1, R.widen h1 h2, hn, b⟩
set_option maxRecDepth 20000 in
set_option maxHeartbeats 2000000 in
theorem toMails_any {own : Bool} {lo hi : Nat} (ao : Option Addr) (n cap : Nat) (xs : List Mal) (w : World) (x : LAt mailK w own lo hi ao n cap xs) (hn : n ≤ 1048576) (hs : (∀ (i : Nat) (a : Mal), xs[i]? = some a → a.2.2.1 ≤ 1048576)) :
    Calls Try.prog 98 #[.slice ao n cap] w fun e w' => ∃ g ys, e = .returned (.slice (some ⟨g, 0, none⟩) n n) ∧ w.heap.size ≤ g ∧ g < w'.heap.size ∧ LAt mailK w' true w.heap.size w'.heap.size (some ⟨g, 0, none⟩) n n ys ∧ ys.map (·.1) = xs.map (·.1) ∧ (∀ (i : Nat) (a : Mal), ys[i]? = some a → a.2.2.1 ≤ 1048576) ∧ Below w.heap.size w w' := by
  have hx := x.len
  obtain ⟨i0, hi0, hz0, hz1, hz2⟩ := info_parts Try.infoMail
  have HS : Hid _ := hs
  clear hs
  go_enter Try.func98, Try.ntmps98
  go_wp2_with (first | (at_make; refine wpList_make_full _ rfl _ _ 36 rfl w.heap.size 46 i0 (.agg #[.int .i64 0, .int .i64 0, .int .i64 0, .int .i64 0, .int .i64 0, .bool false, .int .i64 0, .int .i64 0, .int .i64 0, .int .i64 0, .int .i64 0, .int .i64 0, .int .i64 0, .slice none 0 0, .int .i64 0]) 15 Try.underlying36 hi0 hz0 hz1 _ _ _ _ n rfl rfl rfl rfl ?b1 ?b2 ?b3 ?_))
  case b1 => rw [hz2]; omega
  case b2 => unfold maxLen; omega
  case b3 => exact Nat.le_refl _
  intro w1 hown hgrow
  have hb1 : Below w.heap.size w w1 := (Below.refl _ _).grown hgrow (Nat.le_refl _) (fun k hk => by cases hk)
  have hown0 : w1.ownsRow w.heap.size 46 15 (.slice (some ⟨w.heap.size, 0, none⟩) n n) n ((List.replicate n mal0).flatMap mailK.cells) := by
    have e : (madeCells #[.int .i64 0, .int .i64 0, .int .i64 0, .int .i64 0, .int .i64 0, .bool false, .int .i64 0, .int .i64 0, .int .i64 0, .int .i64 0, .int .i64 0, .int .i64 0, .int .i64 0, .slice none 0 0, .int .i64 0] (n * 15)).toList = (List.replicate n mal0).flatMap mailK.cells := made_list mailOk n mal0 #[.int .i64 0, .int .i64 0, .int .i64 0, .int .i64 0, .int .i64 0, .bool false, .int .i64 0, .int .i64 0, .int .i64 0, .int .i64 0, .int .i64 0, .int .i64 0, .int .i64 0, .slice none 0 0, .int .i64 0] rfl
    rw [← e]; simpa [Value.cells] using hown
  have hlt0 := (owns_lt hown0).2
  have E0 : MailSt xs w.heap.size n w1 0 := ⟨_, LAt.made hown0 (mal0_mem _ _ _ _) mal0_inn, fun i hi => absurd hi (Nat.not_lt_zero _), fun i hi => absurd hi (Nat.not_lt_zero _)⟩
  clear hown hgrow hown0
  generalize hg : w.heap.size = g at *
  have HG : Hid _ := hg
  clear hg
  go_wp2
  go_loopw [4] (fun i wr => ∃ k : Nat, k ≤ n ∧ i = .int .i64 k ∧ MailSt xs g n wr k ∧ g < wr.heap.size ∧ Below g w wr) (fun i _ => n - (intOf i).toNat)
  case atStart => exact ⟨0, Nat.zero_le _, rfl, E0, hlt0, hb1⟩
  case round =>
    obtain ⟨k, hk, rfl, E, hgl, hb⟩ := hrel
    clear E0 hb1 hlt0
    by_cases hlt : k < n
    · have hlk : (k : Int) < (n : Int) := by omega
      replace hb : Below w.heap.size w wr := by rw [HG.out]; exact hb
      obtain ⟨m, h, b, off, ex, rfl, _, _, X0, y, _⟩ := (x.below mailOk hb).mail hlt
      replace hb : Below g w wr := by rw [← HG.out]; exact hb
      have c0 := X0.cell
      have hmk := HS.out k _ ex
      have HX : Hid _ := ex
      have HE : Hid (MailSt xs g n wr k) := E
      clear ex E
      simp only at hmk
      go_wp2_with fail
      refine (toMail_n m h _ y hmk).mono ?_
      rintro e w2 ⟨h', rfl, y', z', BB⟩
      obtain ⟨TH, E2⟩ := HE.out.put hlt HX.out BB y' z'
      have HT : Hid _ := TH
      have HE2 : Hid _ := E2
      replace hb := below_step hb (Nat.le_of_lt hgl) BB
      have hgl' := Nat.lt_of_lt_of_le hgl BB.size
      clear TH E2 HE HX X0 c0 y y' z' BB
      go_wp2_with (first | ((refine store_elP 46 HT.out [.int .i64 m.kind, .int .i64 m.fr, .int .i64 m.to, .int .i64 m.view, .int .i64 m.at_, .bool m.has, .int .i64 m.en.1, .int .i64 m.en.2.1, .int .i64 m.en.2.2.1, .int .i64 m.en.2.2.2.1, .int .i64 m.en.2.2.2.2.1, .int .i64 m.en.2.2.2.2.2, .int .i64 m.last, .slice h'.1 h'.2.1 h'.2.2, .int .i64 m.commit] (by simp) (by kernel_rfl) (by simp [Value.oneCell']) rfl rfl ?_); intro W5 hW5))
      have HSS : Hid (Below g w W5) := by rw [hW5.eq]; show Below _ _ _; exact hb.trans ((kept_el _ _ _).below _ (Nat.le_refl _) (Nat.le_of_lt hgl'))
      have HSZ : Hid (g < W5.heap.size) := by rw [hW5.eq, size_setCells']; exact hgl'
      replace HE2 : Hid (MailSt xs g n W5 (k + 1)) := by rw [hW5.eq]; exact HE2
      clear hW5 HT hb hgl' hgl
      go_wp2
      go_roundw
      case rel => exact ⟨k + 1, by omega, by go_num, HE2.out, HSZ.out, HSS.out⟩
      case measure => simp [intOf]; omega
    · obtain rfl : k = n := by omega
      go_wp2
      go_ret
      obtain ⟨ys, L, e1, e2⟩ := E
      have hg := HG.out
      subst hg
      refine ⟨_, ys, rfl, Nat.le_refl _, hgl, L, map_fst_eq (d := mal0) hx L.len e1, fun i a e => ?_, hb⟩
      have := e2 i (by rw [← L.len]; exact (List.getElem?_eq_some_iff.1 e).1)
      rw [getD_of_get e] at this
      exact this

end Go.Proofs.Ytikplcpgocgogaa
